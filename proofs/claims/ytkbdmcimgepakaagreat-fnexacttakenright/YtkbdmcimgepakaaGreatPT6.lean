/- What is proved here: the input of a peer in a log, as bytes; what the program's inputOf, inputSize and bytes.HasPrefix answer What is proved here: what the model's l14Bytes and l15Begins answer What is proved here: that what was taken is right, as lists; what the program's takenRight answers What is proved here: what the model's l15Taken answers What is proved here: what TakenRight answers, both sides -/
import Derived.Test.YtkbdmcimgepakaaGreatPS5
import Derived.Test.YtkbdmcimgepakaaGreatPS2
import Derived.Test.YtkbdmcimgepakaaGreatPS3
import Derived.Deep.RegionHeld3
namespace Go.Proofs.YtkbdmcimgepakaaGreat
open Go.ChangeShapes Go.WideShapes Go.ChangeAt Go.RowKit
set_option linter.unusedVariables false
set_option linter.unusedSimpArgs false

set_option maxRecDepth 100000

/-- The bytes of a peer in a list of entries. -/
def inF (p : Int) (L : List Ek) : List Int := L.flatMap (fun x => if x.pe = p then x.xs else [])
theorem inF_succ {p : Int} {L : List Ek} {k : Nat} {x : Ek} (h : L[k]? = some x) : inF p (L.take (k + 1)) = inF p (L.take k) ++ (if x.pe = p then x.xs else []) := by
  obtain ⟨hk, e⟩ := List.getElem?_eq_some_iff.1 h
  rw [List.take_succ_eq_append_getElem hk, e]
  simp [inF]
theorem inF_all {p : Int} {L : List Ek} {k : Nat} (h : L.length ≤ k) : inF p (L.take k) = inF p L := by rw [List.take_of_length_le h]
theorem inF_len (p : Int) (V : List EkV) : (inF p (V.map EkV.r)).length ≤ totK V := by
  induction V with
  | nil => simp [inF, totK]
  | cons v V ih =>
    simp only [inF, List.map_cons, List.flatMap_cons, List.length_append] at ih ⊢
    simp only [totK]
    split
    · omega
    · rw [List.length_nil]; omega
theorem inF_lenT (p : Int) (V : List EkV) (k : Nat) : (inF p ((V.map EkV.r).take k)).length ≤ totK V := by
  rw [← List.map_take]
  exact Nat.le_trans (inF_len p (V.take k)) (totK_take V k)
theorem inF_by {w : World} {A : Option Addr} {V : List EkV} (h : LgAt w A V) (p : Int) : ∀ z ∈ inF p (V.map EkV.r), By z := by
  intro z hz
  simp only [inF, List.mem_flatMap, List.mem_map] at hz
  obtain ⟨x, ⟨v, hv, rfl⟩, hz⟩ := hz
  obtain ⟨i, hi⟩ := List.getElem?_of_mem hv
  split at hz
  · exact (h i v hi).2.1.lt z hz
  · cases hz
/-- The first list is a beginning of the second. -/
def pxF (a b : List Int) : Bool := decide (a.length ≤ b.length) && decide (b.take a.length = a)
theorem Tryz.htBk : Tryz.prog.underlying 78 = some (.slice (Tryz.prog.elem 78)) := by kernel_rfl
theorem Tryz.szBk (w : World) : (sizeOf (Tryz.prog.elem 78)).run Tryz.prog w = .ok 1 w := by kernel_rfl
/-- The first of bytes. -/
theorem headBk (a : Option Addr) (n c t : Nat) (hs : (a = none ∧ c = 0) ∨ ∃ b, a = some ⟨b, 0, none⟩) (ht : t ≤ c) :
    ∀ X, (Instr.slice 78 (.slice a n c) none (some (.int .i64 (t : Int))) none).run Tryz.prog X = .ok (.slice a t c) X := by
  intro X
  rw [run_slice_h X 78 a n c Tryz.htBk .i64 t (by omega) (by omega), Tryz.szBk]
  rcases hs with ⟨rfl, rfl⟩ | ⟨b, rfl⟩
  · simp [Result.andThen, sliced]
  · by_cases hc : c = 0
    · simp [Result.andThen, sliced, hc]
    · simp [Result.andThen, sliced, hc, Addr.add]

set_option maxHeartbeats 6400000 in
theorem inOf_any (p : Int) (A : Option Addr) (n c : Nat) (V : List EkV) (w : World) (h : LgAt w A V) (hnl : NlK V) (hn : V.length = n) (hT : totK V ≤ 1048576) :
    Calls Tryz.prog 79 #[.slice A n c, .int .i64 p] w fun e w' => ∃ u, e = .returned u ∧ OvB w' w.heap.size u (inF p (V.map EkV.r)) ∧ New w w' := by
  obtain ⟨i0, hi, hz0, hz1, hz2⟩ := info_parts Tryz.infoU8
  have HN : Hid (V.length = n) := hn
  have HNL : Hid (NlK V) := hnl
  have HT : Hid (totK V ≤ 1048576) := hT
  have hn1 : n ≤ 1048576 := by have := totK_len V; omega
  clear hn hnl hT
  go_enter Tryz.func79, Tryz.ntmps79
  go_wp2
  go_loopw [10, 5] (fun i u wr => ∃ (k : Nat), k ≤ n ∧ i = .int .i64 k ∧ New w wr ∧ Hid (OvB wr w.heap.size u (inF p ((V.map EkV.r).take k)))) (fun i _ _ => n - (intOf i).toNat)
  case atStart => exact ⟨0, Nat.zero_le _, rfl, New.refl _, by unfold Hid OvB; simpa [inF] using World.ownsRow_nil _ _ _ _⟩
  case round =>
    obtain ⟨k, hk, rfl, hnw, hO⟩ := hrel
    by_cases hlt : k < n
    · skip
      obtain ⟨g, e1, k1, p1, x, m, d, xs, hg, hvv, hl, hx, hmx, a0, a1, a2, a3⟩ := (h.new hnw).at k (by have := HN.out; omega)
      subst hg
      have hnl := HNL.out _ (List.mem_of_getElem? hvv)
      simp only at hnl
      rw [hl] at hnl
      have HS : Hid (inF p ((V.map EkV.r).take (k + 1)) = inF p ((V.map EkV.r).take k) ++ (if p1 = p then xs else [])) := by
        unfold Hid
        exact inF_succ (x := ⟨e1, k1, p1, xs⟩) (by rw [List.getElem?_map, hvv]; rfl)
      have hle := inF_lenT p V (k + 1)
      rw [HS.out] at hle
      have HL : Hid (xs.length = m) := hl
      have al := (New.refl wr).alloc (.cells #[.int .i64 e1, .int .i64 k1, .int .i64 p1, .slice x m d] 95)
      have bx := Blk.mk wr wr.heap.size 95 #[.int .i64 e1, .int .i64 k1, .int .i64 p1, .slice x m d] rfl
      clear hvv hl
      by_cases hp : p1 = p
      · have gp : (p1 == p) = true := by simp [hp]
        rw [if_pos hp] at hle
        have HS2 : Hid (inF p ((V.map EkV.r).take (k + 1)) = inF p ((V.map EkV.r).take k) ++ xs) := by unfold Hid; rw [HS.out, if_pos hp]
        have HP : Hid (p1 = p) := hp
        clear hp HS
        have hrow : (wr.alloc (.cells #[.int .i64 e1, .int .i64 k1, .int .i64 p1, .slice x m d] 95)).ownsRow w.heap.size 5 1 u5 (inF p ((V.map EkV.r).take k)).length ((inF p ((V.map EkV.r).take k)).map (Value.int .u8)) := row9_new hO.out al
        have hxa := hx.new al
        have hwa := hnw.trans al
        generalize hZ : inF p ((V.map EkV.r).take k) = zs at *
        go_upto_region 5 with fail
        generalize wr.alloc (.cells #[.int .i64 e1, .int .i64 k1, .int .i64 p1, .slice x m d] 95) = wa at *
        have cx := bx.cells
        have zz := hwa.size
        clear a0 a1 a2 a3
        go_wp2_with (at_builtin; refine wpList_apB _ rfl (.tmp 19) (.tmp 22) rfl w.heap.size Tryz.underlying78 hi hz0 hz1 hz2 _ zs rfl hrow x m d xs rfl hxa HL.out hnl (by have := HL.out; have := HT.out; simp at hle; omega) (by omega) ?_)
        intro v' w1 ho1 hg1
        have HO1 : Hid (OvB w1 w.heap.size v' (zs ++ xs)) := by unfold Hid OvB; simpa using ho1
        obtain ⟨y, dd, hv', -, hy⟩ := row9_form hrow
        have hn2 := hwa.grow hg1 (by intro q hq; exact (hy q hq).1)
        clear ho1
        go_wp2
        go_roundw
        case rel => exact ⟨k + 1, by omega, by go_num, hn2, by unfold Hid; rw [HS2.out]; exact HO1.out⟩
        case measure => simp [intOf]; omega
      · have gp : (p1 == p) = false := by simp [hp]
        have HS2 : Hid (inF p ((V.map EkV.r).take (k + 1)) = inF p ((V.map EkV.r).take k)) := by unfold Hid; rw [HS.out, if_neg hp, List.append_nil]
        have hO2 : Hid (OvB (wr.alloc (.cells #[.int .i64 e1, .int .i64 k1, .int .i64 p1, .slice x m d] 95)) w.heap.size u5 (inF p ((V.map EkV.r).take (k + 1)))) := by unfold Hid; rw [HS2.out]; exact row9_new hO.out al
        have hwa := hnw.trans al
        have cx := bx.cells
        clear HS HS2 hle
        go_wp2
        go_roundw
        case rel => exact ⟨k + 1, by omega, by go_num, hwa, hO2⟩
        case measure => simp [intOf]; omega
    · have HR : Hid (OvB wr w.heap.size u5 (inF p (V.map EkV.r))) := by unfold Hid; have := hO.out; rw [inF_all (by have := HN.out; simp; omega)] at this; exact this
      clear hO
      go_wp2
      go_ret
      exact ⟨_, rfl, HR.out, hnw⟩

set_option maxHeartbeats 3200000 in
theorem inSz_any (p : Int) (A : Option Addr) (n c : Nat) (V : List EkV) (w : World) (h : LgAt w A V) (hn : V.length = n) (hT : totK V ≤ 1048576) :
    Calls Tryz.prog 80 #[.slice A n c, .int .i64 p] w fun e w' => e = .returned (.int .i64 ((inF p (V.map EkV.r)).length : Nat)) ∧ New w w' := by
  have HN : Hid (V.length = n) := hn
  have HT : Hid (totK V ≤ 1048576) := hT
  have hn1 : n ≤ 1048576 := by have := totK_len V; omega
  clear hn hT
  go_enter Tryz.func80, Tryz.ntmps80
  go_wp2
  go_loopw [10, 5] (fun i u wr => ∃ (k s : Nat), k ≤ n ∧ i = .int .i64 k ∧ u = .int .i64 s ∧ New w wr ∧ Hid ((inF p ((V.map EkV.r).take k)).length = s)) (fun i _ _ => n - (intOf i).toNat)
  case atStart => exact ⟨0, 0, Nat.zero_le _, rfl, rfl, New.refl _, rfl⟩
  case round =>
    obtain ⟨k, s, hk, rfl, rfl, hnw, hO⟩ := hrel
    by_cases hlt : k < n
    · skip
      obtain ⟨g, e1, k1, p1, x, m, d, xs, hg, hvv, hl, hx, hmx, a0, a1, a2, a3⟩ := (h.new hnw).at k (by have := HN.out; omega)
      subst hg
      have HS : Hid (inF p ((V.map EkV.r).take (k + 1)) = inF p ((V.map EkV.r).take k) ++ (if p1 = p then xs else [])) := by
        unfold Hid
        exact inF_succ (x := ⟨e1, k1, p1, xs⟩) (by rw [List.getElem?_map, hvv]; rfl)
      have hle := inF_lenT p V (k + 1)
      rw [HS.out] at hle
      have HL : Hid (xs.length = m) := hl
      have al := (New.refl wr).alloc (.cells #[.int .i64 e1, .int .i64 k1, .int .i64 p1, .slice x m d] 95)
      have bx := Blk.mk wr wr.heap.size 95 #[.int .i64 e1, .int .i64 k1, .int .i64 p1, .slice x m d] rfl
      have hwa := hnw.trans al
      have hls := inF_lenT p V k
      rw [hO.out] at hls
      have hls2 : s ≤ 1048576 := by have := HT.out; omega
      clear hvv hl hls
      have cx := bx.cells
      by_cases hp : p1 = p
      · have gp : (p1 == p) = true := by simp [hp]
        have HS2 : Hid ((inF p ((V.map EkV.r).take (k + 1))).length = s + m) := by unfold Hid; rw [HS.out, if_pos hp, List.length_append, hO.out, HL.out]
        have HP : Hid (p1 = p) := hp
        clear hp HS hle
        go_wp2
        go_roundw
        case rel => exact ⟨k + 1, s + m, by omega, by go_num, by go_num, hwa, HS2⟩
        case measure => simp [intOf]; omega
      · have gp : (p1 == p) = false := by simp [hp]
        have HS2 : Hid ((inF p ((V.map EkV.r).take (k + 1))).length = s) := by unfold Hid; rw [HS.out, if_neg hp, List.append_nil, hO.out]
        clear HS hle
        go_wp2
        go_roundw
        case rel => exact ⟨k + 1, s, by omega, by go_num, rfl, hwa, HS2⟩
        case measure => simp [intOf]; omega
    · have HR : Hid ((inF p (V.map EkV.r)).length = s) := by unfold Hid; have := hO.out; rw [inF_all (by have := HN.out; simp; omega)] at this; exact this
      clear hO
      go_wp2
      go_ret
      exact ⟨ret_i64 (by rw [HR.out]), hnw⟩

set_option maxHeartbeats 1600000 in
theorem hasP_any (x y : Option Addr) (m d q f : Nat) (xs ys : List Int) (w : World) (hx : BsAt w x xs) (hy : BsAt w y ys) (lx : xs.length = m) (ly : ys.length = q) (hf : FitK y q f) (hm : m ≤ 4194304) (hq : q ≤ 4194304) :
    Calls Tryz.prog 78 #[.slice y q f, .slice x m d] w fun e w' => e = .returned (.bool (pxF xs ys)) ∧ w' = w := by
  have HX : Hid (xs.length = m) := lx
  have HY : Hid (ys.length = q) := ly
  by_cases hle : m ≤ q
  · have HR : Hid (decide (ys.take m = xs) = pxF xs ys) := by
      unfold Hid pxF
      rw [HX.out, HY.out]
      simp [hle]
    have hcut := headBk y q f m (by rcases hf.2 with ⟨h3, h4, h5⟩ | ⟨g', h3⟩; exact .inl ⟨h3, h5⟩; exact .inr ⟨g', h3⟩) (by have := hf.1; omega) w
    have d1 : decide ((m : Int) ≤ (q : Int)) = true := by simpa using hle
    have d2 : (m : Int) ≤ (q : Int) := by omega
    have HF : Hid (FitK y q f) := hf
    have hy2 := hy.take m
    clear lx ly hf hy
    go_enter Tryz.func78, Tryz.ntmps78
    go_wp2_with fail
    refine (bEq_any y x m f m d (ys.take m) xs _ hy2 hx (by rw [List.length_take, HY.out]; omega) HX.out).mono ?_
    rintro e wz ⟨rfl, hwz⟩
    obtain rfl := hwz.symm
    generalize decide (ys.take m = xs) = b at *
    go_wp2
    go_ret
    exact ⟨ret_bool HR.out, rfl⟩
  · have HR : Hid (false = pxF xs ys) := by
      unfold Hid pxF
      rw [HX.out, HY.out]
      simp [hle]
    have d1 : decide ((m : Int) ≤ (q : Int)) = false := by simp; omega
    have d2 : ¬ (m : Int) ≤ (q : Int) := by omega
    clear lx ly hf
    go_enter Tryz.func78, Tryz.ntmps78
    go_wp2
    go_ret
    exact ⟨ret_bool HR.out, rfl⟩

end Go.Proofs.YtkbdmcimgepakaaGreat

namespace Go.Proofs.YtkbdmcimgepakaaGreat
open Go.ChangeShapes Go.WideShapes Go.ChangeAt Go.RowKit
set_option linter.unusedVariables false
set_option linter.unusedSimpArgs false

set_option maxRecDepth 100000

set_option maxHeartbeats 6400000 in
theorem bytesS (p : Int) (A : Option Addr) (n c : Nat) (V : List EkV) (w : World) (h : LgAt w A V) (hnl : NlK V) (hki : ∀ v ∈ V, v.r.ki = 2 ∨ v.r.xs = []) (hn : V.length = n) (hT : totK V ≤ 1048576) :
    Calls Tryz.prog 77 #[.slice A n c, .int .i64 p] w fun e w' => ∃ u, e = .returned u ∧ OvB w' w.heap.size u (inF p (V.map EkV.r)) ∧ New w w' := by
  obtain ⟨i0, hi, hz0, hz1, hz2⟩ := info_parts Tryz.infoU8
  have HN : Hid (V.length = n) := hn
  have HNL : Hid (NlK V) := hnl
  have HKI : Hid (∀ v ∈ V, v.r.ki = 2 ∨ v.r.xs = []) := hki
  have HT : Hid (totK V ≤ 1048576) := hT
  have hn1 : n ≤ 1048576 := by have := totK_len V; omega
  have al0 := (New.refl w).alloc (.cells #[] 5)
  have ho0 : (w.alloc (.cells #[] 5)).ownsRow w.heap.size 5 1 (.slice (some ⟨w.heap.size, 0, none⟩) 0 0) ([] : List Int).length (([] : List Int).map (Value.int .u8)) := by
    have := World.ownsRow_lit (base := w.heap.size) (size := 1) (e := 5) w #[] 0 (Nat.le_refl _) (Nat.zero_le _) rfl
    simpa using this
  clear hn hnl hT hki
  go_enter Tryz.func77, Tryz.ntmps77
  go_wp2
  go_loopw [6, 5] (fun i u wr => ∃ (k : Nat), k ≤ n ∧ i = .int .i64 k ∧ New w wr ∧ Hid (OvB wr w.heap.size u (inF p ((V.map EkV.r).take k)))) (fun i _ _ => n - (intOf i).toNat)
  case atStart => exact ⟨0, Nat.zero_le _, rfl, al0, by unfold Hid OvB; simpa [inF] using ho0⟩
  case round =>
    obtain ⟨k, hk, rfl, hnw, hO⟩ := hrel
    by_cases hlt : k < n
    · skip
      obtain ⟨g, e1, k1, p1, x, m, d, xs, hg, hvv, hl, hx, hmx, a0, a1, a2, a3⟩ := (h.new hnw).at k (by have := HN.out; omega)
      subst hg
      have hnl := HNL.out _ (List.mem_of_getElem? hvv)
      simp only at hnl
      rw [hl] at hnl
      have HS : Hid (inF p ((V.map EkV.r).take (k + 1)) = inF p ((V.map EkV.r).take k) ++ (if p1 = p then xs else [])) := by
        unfold Hid
        exact inF_succ (x := ⟨e1, k1, p1, xs⟩) (by rw [List.getElem?_map, hvv]; rfl)
      have hle := inF_lenT p V (k + 1)
      rw [HS.out] at hle
      have HL : Hid (xs.length = m) := hl
      have hkx := HKI.out _ (List.mem_of_getElem? hvv)
      simp only at hkx
      have dkn : (k : Int) < (n : Int) := by omega
      clear hvv hl
      by_cases hk2 : k1 = 2
      case neg =>
        have gk : (k1 == 2) = false := by simp [hk2]
        have hO2 : Hid (OvB wr w.heap.size u5 (inF p ((V.map EkV.r).take (k + 1)))) := by
          unfold Hid
          rw [HS.out, show xs = [] from by rcases hkx with h | h; exact absurd h hk2; exact h]
          simp
          exact hO.out
        clear HS hle hkx
        go_wp2
        go_roundw
        case rel => exact ⟨k + 1, by omega, by go_num, hnw, hO2⟩
        case measure => simp [intOf]; omega
      have gk : (k1 == 2) = true := by simp [hk2]
      have HK2 : Hid (k1 = 2) := hk2
      clear hk2 hkx
      by_cases hp : p1 = p
      · have gp : (p1 == p) = true := by simp [hp]
        rw [if_pos hp] at hle
        have HS2 : Hid (inF p ((V.map EkV.r).take (k + 1)) = inF p ((V.map EkV.r).take k) ++ xs) := by unfold Hid; rw [HS.out, if_pos hp]
        have HP : Hid (p1 = p) := hp
        clear hp HS
        have hrow : wr.ownsRow w.heap.size 5 1 u5 (inF p ((V.map EkV.r).take k)).length ((inF p ((V.map EkV.r).take k)).map (Value.int .u8)) := hO.out
        generalize hZ : inF p ((V.map EkV.r).take k) = zs at *
        have zz := hnw.size
        go_wp2_with (at_builtin; refine wpList_apB _ rfl (.tmp 31) (.tmp 37) rfl w.heap.size Tryz.underlying78 hi hz0 hz1 hz2 _ zs rfl hrow x m d xs rfl hx HL.out hnl (by have := HL.out; have := HT.out; simp at hle; omega) (by omega) ?_)
        intro v' w1 ho1 hg1
        have HO1 : Hid (OvB w1 w.heap.size v' (zs ++ xs)) := by unfold Hid OvB; simpa using ho1
        obtain ⟨y, dd, hv', -, hy⟩ := row9_form hrow
        have hn2 := hnw.grow hg1 (by intro q hq; exact (hy q hq).1)
        clear ho1
        go_wp2
        go_roundw
        case rel => exact ⟨k + 1, by omega, by go_num, hn2, by unfold Hid; rw [HS2.out]; exact HO1.out⟩
        case measure => simp [intOf]; omega
      · have gp : (p1 == p) = false := by simp [hp]
        have hO2 : Hid (OvB wr w.heap.size u5 (inF p ((V.map EkV.r).take (k + 1)))) := by unfold Hid; rw [HS.out, if_neg hp, List.append_nil]; exact hO.out
        clear HS hle
        go_wp2
        go_roundw
        case rel => exact ⟨k + 1, by omega, by go_num, hnw, hO2⟩
        case measure => simp [intOf]; omega
    · have HR : Hid (OvB wr w.heap.size u5 (inF p (V.map EkV.r))) := by unfold Hid; have := hO.out; rw [inF_all (by have := HN.out; simp; omega)] at this; exact this
      clear hO
      go_wp2
      go_ret
      exact ⟨_, rfl, HR.out, hnw⟩

set_option maxHeartbeats 3200000 in
theorem begS (x y : Option Addr) (m d q f : Nat) (xs ys : List Int) (w : World) (hx : BsAt w x xs) (hy : BsAt w y ys) (lx : xs.length = m) (ly : ys.length = q) (hf : FitK y q f) (hm : m ≤ 4194304) (hq : q ≤ 4194304) :
    Calls Tryz.prog 76 #[.slice x m d, .slice y q f] w fun e w' => e = .returned (.bool (pxF xs ys)) ∧ New w w' := by
  have HX : Hid (xs.length = m) := lx
  have HY : Hid (ys.length = q) := ly
  by_cases hle : m ≤ q
  case neg =>
    have HR : Hid (false = pxF xs ys) := by
      unfold Hid pxF
      rw [HX.out, HY.out]
      simp [hle]
    have d1 : decide ((m : Int) ≤ (q : Int)) = false := by simp; omega
    have d2 : ¬ (m : Int) ≤ (q : Int) := by omega
    clear lx ly hf
    go_enter Tryz.func76, Tryz.ntmps76
    go_upto_region 1 with fail
    refine hw_start (n := 16) (S := fun X => New w X) rfl (by kernel_rfl) ((New.refl _).drew) (fun hH => ?_)
    refine' hw_take 0 (some 5) _ rfl rfl (by kernel_rfl) (by kernel_rfl) (by kernel_rfl) (fun _ _ _ h => h) (by rfl) hH ?hy49 ?rest49
    case hy49 =>
      intro X hX
      go_simp
      try rfl
    simp only [Act.put, List.setIfInBounds_toArray, List.set_cons_zero, List.set_cons_succ]
    refine' hw_take 1 (some 6) _ rfl rfl (by kernel_rfl) (by kernel_rfl) (by kernel_rfl) (fun _ _ _ h => h) (by rfl) hH ?hy50 ?rest50
    case hy50 =>
      intro X hX
      go_simp
      try rfl
    simp only [Act.put, List.setIfInBounds_toArray, List.set_cons_zero, List.set_cons_succ]
    refine' hw_take 2 (some 7) _ rfl rfl (by kernel_rfl) (by kernel_rfl) (by kernel_rfl) (fun _ _ _ h => h) (by rfl) hH ?hy51 ?rest51
    case hy51 =>
      intro X hX
      go_simp
      try rfl
    simp only [Act.put, List.setIfInBounds_toArray, List.set_cons_zero, List.set_cons_succ]
    refine' hw_take 3 (some 8) _ rfl rfl (by kernel_rfl) (by kernel_rfl) (by kernel_rfl) (fun _ _ _ h => h) (by rfl) hH ?hy52 ?rest52
    case hy52 =>
      intro X hX
      go_simp
      try rfl
    simp only [Act.put, List.setIfInBounds_toArray, List.set_cons_zero, List.set_cons_succ]
    refine' hw_take 4 (some 9) (.bool false) rfl rfl (by kernel_rfl) (by kernel_rfl) (by kernel_rfl) (fun _ _ _ h => h) (by rfl) hH ?hyL53 ?restL53
    case hyL53 =>
      intro X hX
      go_simp
      try rfl
    simp only [Act.put, List.setIfInBounds_toArray, List.set_cons_zero, List.set_cons_succ]
    refine' hw_take 5 (some 10) _ rfl rfl (by kernel_rfl) (by kernel_rfl) (by kernel_rfl) (fun _ _ _ h => h) (by rfl) hH ?hy54 ?rest54
    case hy54 =>
      intro X hX
      go_simp
      try rfl
    simp only [Act.put, List.setIfInBounds_toArray, List.set_cons_zero, List.set_cons_succ]
    refine hw_skip 6 (some 11) rfl rfl (by kernel_rfl) (by kernel_rfl) (by kernel_rfl) (fun _ _ _ h => h) (by rfl) hH ?_
    simp only [Act.put, List.setIfInBounds_toArray, List.set_cons_zero, List.set_cons_succ]
    refine hw_skip 7 (some 12) rfl rfl (by kernel_rfl) (by kernel_rfl) (by kernel_rfl) (fun _ _ _ h => h) (by rfl) hH ?_
    simp only [Act.put, List.setIfInBounds_toArray, List.set_cons_zero, List.set_cons_succ]
    refine hw_skip 8 (some 13) rfl rfl (by kernel_rfl) (by kernel_rfl) (by kernel_rfl) (fun _ _ _ h => h) (by rfl) hH ?_
    simp only [Act.put, List.setIfInBounds_toArray, List.set_cons_zero, List.set_cons_succ]
    refine hw_skip 9 (some 14) rfl rfl (by kernel_rfl) (by kernel_rfl) (by kernel_rfl) (fun _ _ _ h => h) (by rfl) hH ?_
    simp only [Act.put, List.setIfInBounds_toArray, List.set_cons_zero, List.set_cons_succ]
    refine hw_skip 10 (some 15) rfl rfl (by kernel_rfl) (by kernel_rfl) (by kernel_rfl) (fun _ _ _ h => h) (by rfl) hH ?_
    simp only [Act.put, List.setIfInBounds_toArray, List.set_cons_zero, List.set_cons_succ]
    refine hw_skip 11 (some 16) rfl rfl (by kernel_rfl) (by kernel_rfl) (by kernel_rfl) (fun _ _ _ h => h) (by rfl) hH ?_
    simp only [Act.put, List.setIfInBounds_toArray, List.set_cons_zero, List.set_cons_succ]
    refine hw_skip 12 (some 17) rfl rfl (by kernel_rfl) (by kernel_rfl) (by kernel_rfl) (fun _ _ _ h => h) (by rfl) hH ?_
    simp only [Act.put, List.setIfInBounds_toArray, List.set_cons_zero, List.set_cons_succ]
    refine hw_skip 13 (some 18) rfl rfl (by kernel_rfl) (by kernel_rfl) (by kernel_rfl) (fun _ _ _ h => h) (by rfl) hH ?_
    simp only [Act.put, List.setIfInBounds_toArray, List.set_cons_zero, List.set_cons_succ]
    refine' hw_take 14 (some 19) _ rfl rfl (by kernel_rfl) (by kernel_rfl) (by kernel_rfl) (fun _ _ _ h => h) (by rfl) hH ?hy55 ?rest55
    case hy55 =>
      intro X hX
      go_simp
      try rfl
    simp only [Act.put, List.setIfInBounds_toArray, List.set_cons_zero, List.set_cons_succ]
    refine' hw_take 15 (some 4) _ rfl rfl (by kernel_rfl) (by kernel_rfl) (by kernel_rfl) (fun _ _ _ h => h) (by rfl) hH ?hy56 ?rest56
    case hy56 =>
      intro X hX
      go_simp
      try rfl
    simp only [Act.put, List.setIfInBounds_toArray, List.set_cons_zero, List.set_cons_succ]
    refine wpAnyH_done (by kernel_rfl) ?_ _
    go_wp2
    go_ret
    exact ⟨ret_bool HR.out, (New.refl _).drew⟩
  have HR : Hid (decide (ys.take m = xs) = pxF xs ys) := by
    unfold Hid pxF
    rw [HX.out, HY.out]
    simp [hle]
  have hcut := headBk y q f m (by rcases hf.2 with ⟨h3, h4, h5⟩ | ⟨g', h3⟩; exact .inl ⟨h3, h5⟩; exact .inr ⟨g', h3⟩) (by have := hf.1; omega)
  have d1 : decide ((m : Int) ≤ (q : Int)) = true := by simpa using hle
  have d2 : (m : Int) ≤ (q : Int) := by omega
  have HF : Hid (FitK y q f) := hf
  have RS : Hid ((∀ X, New w X → (convert 78 9 (.slice y m f)).run Tryz.prog X = .ok (.string (str9 (ys.take m))) X) ∧ ∀ X, New w X → (convert 78 9 (.slice x m d)).run Tryz.prog X = .ok (.string (str9 xs)) X) :=
    ⟨fun X hX => run_str9c y m f (ys.take m) X ((hy.take m).new hX) (by rw [List.length_take, HY.out]; omega), fun X hX => run_str9c x m d xs X (hx.new hX) HX.out⟩
  have hlt1 := (hy.take m).lt
  have hlt2 := hx.lt
  clear lx ly hf hx hy
  by_cases h : ys.take m = xs
  · have HR2 : Hid (true = pxF xs ys) := by unfold Hid; rw [← HR.out]; simp [h]
    have s1 := str_eq_self (str9 xs)
    rw [h] at RS
    have HH : Hid (ys.take m = xs) := h
    clear h HR hlt1 hlt2
    generalize str9 xs = S9 at *
    go_enter Tryz.func76, Tryz.ntmps76
    go_upto_region 1 with fail
    refine hw_start (n := 16) (S := fun X => New w X) rfl (by kernel_rfl) ((New.refl _).drew) (fun hH => ?_)
    refine' hw_take 0 (some 5) _ rfl rfl (by kernel_rfl) (by kernel_rfl) (by kernel_rfl) (fun _ _ _ h => h) (by rfl) hH ?hy57 ?rest57
    case hy57 =>
      intro X hX
      go_simp
      try rfl
    simp only [Act.put, List.setIfInBounds_toArray, List.set_cons_zero, List.set_cons_succ]
    refine' hw_take 1 (some 6) _ rfl rfl (by kernel_rfl) (by kernel_rfl) (by kernel_rfl) (fun _ _ _ h => h) (by rfl) hH ?hy58 ?rest58
    case hy58 =>
      intro X hX
      go_simp
      try rfl
    simp only [Act.put, List.setIfInBounds_toArray, List.set_cons_zero, List.set_cons_succ]
    refine' hw_take 2 (some 7) _ rfl rfl (by kernel_rfl) (by kernel_rfl) (by kernel_rfl) (fun _ _ _ h => h) (by rfl) hH ?hy59 ?rest59
    case hy59 =>
      intro X hX
      go_simp
      try rfl
    simp only [Act.put, List.setIfInBounds_toArray, List.set_cons_zero, List.set_cons_succ]
    refine' hw_take 3 (some 8) _ rfl rfl (by kernel_rfl) (by kernel_rfl) (by kernel_rfl) (fun _ _ _ h => h) (by rfl) hH ?hy60 ?rest60
    case hy60 =>
      intro X hX
      go_simp
      try rfl
    simp only [Act.put, List.setIfInBounds_toArray, List.set_cons_zero, List.set_cons_succ]
    refine' hw_take 4 (some 9) (.bool true) rfl rfl (by kernel_rfl) (by kernel_rfl) (by kernel_rfl) (fun _ _ _ h => h) (by rfl) hH ?hyL61 ?restL61
    case hyL61 =>
      intro X hX
      go_simp
      try rfl
    simp only [Act.put, List.setIfInBounds_toArray, List.set_cons_zero, List.set_cons_succ]
    refine' hw_take 5 (some 10) _ rfl rfl (by kernel_rfl) (by kernel_rfl) (by kernel_rfl) (fun _ _ _ h => h) (by rfl) hH ?hy62 ?rest62
    case hy62 =>
      intro X hX
      go_simp
      try rfl
    simp only [Act.put, List.setIfInBounds_toArray, List.set_cons_zero, List.set_cons_succ]
    refine' hw_take 6 (some 11) _ rfl rfl (by kernel_rfl) (by kernel_rfl) (by kernel_rfl) (fun _ _ _ h => h) (by rfl) hH ?hy63 ?rest63
    case hy63 =>
      intro X hX
      go_simp
      try rfl
    simp only [Act.put, List.setIfInBounds_toArray, List.set_cons_zero, List.set_cons_succ]
    refine' hw_take 7 (some 12) _ rfl rfl (by kernel_rfl) (by kernel_rfl) (by kernel_rfl) (fun _ _ _ h => h) (by rfl) hH ?hy64 ?rest64
    case hy64 =>
      intro X hX
      go_simp
      try rfl
    simp only [Act.put, List.setIfInBounds_toArray, List.set_cons_zero, List.set_cons_succ]
    refine' hw_take 8 (some 13) _ rfl rfl (by kernel_rfl) (by kernel_rfl) (by kernel_rfl) (fun _ _ _ h => h) (by rfl) hH ?hy65 ?rest65
    case hy65 =>
      intro X hX
      go_simp
      try rfl
    simp only [Act.put, List.setIfInBounds_toArray, List.set_cons_zero, List.set_cons_succ]
    refine' hw_take 9 (some 14) (.slice y m f) rfl rfl (by kernel_rfl) (by kernel_rfl) (by kernel_rfl) (fun _ _ _ h => h) (by rfl) hH ?hyS66 ?restS66
    case hyS66 =>
      intro X hX
      have hc := hcut X
      unfold execOp
      go_simp
      try exact hc
    simp only [Act.put, List.setIfInBounds_toArray, List.set_cons_zero, List.set_cons_succ]
    refine' hw_take 10 (some 15) (.string S9) rfl rfl (by kernel_rfl) (by kernel_rfl) (by kernel_rfl) (fun _ _ _ h => h) (by rfl) hH ?hyL67 ?restL67
    case hyL67 =>
      intro X hX
      have rX := RS.out.1 X hX
      unfold execOp
      go_simp
      try (rw [rX]; rfl)
    simp only [Act.put, List.setIfInBounds_toArray, List.set_cons_zero, List.set_cons_succ]
    refine' hw_take 11 (some 16) _ rfl rfl (by kernel_rfl) (by kernel_rfl) (by kernel_rfl) (fun _ _ _ h => h) (by rfl) hH ?hy68 ?rest68
    case hy68 =>
      intro X hX
      go_simp
      try rfl
    simp only [Act.put, List.setIfInBounds_toArray, List.set_cons_zero, List.set_cons_succ]
    refine' hw_take 12 (some 17) (.string S9) rfl rfl (by kernel_rfl) (by kernel_rfl) (by kernel_rfl) (fun _ _ _ h => h) (by rfl) hH ?hyL69 ?restL69
    case hyL69 =>
      intro X hX
      have rX := RS.out.2 X hX
      unfold execOp
      go_simp
      try (rw [rX]; rfl)
    simp only [Act.put, List.setIfInBounds_toArray, List.set_cons_zero, List.set_cons_succ]
    refine' hw_take 13 (some 18) (.bool true) rfl rfl (by kernel_rfl) (by kernel_rfl) (by kernel_rfl) (fun _ _ _ h => h) (by rfl) hH ?hyL70 ?restL70
    case hyL70 =>
      intro X hX
      go_simp
      try rfl
    simp only [Act.put, List.setIfInBounds_toArray, List.set_cons_zero, List.set_cons_succ]
    refine' hw_take 14 (some 19) _ rfl rfl (by kernel_rfl) (by kernel_rfl) (by kernel_rfl) (fun _ _ _ h => h) (by rfl) hH ?hy71 ?rest71
    case hy71 =>
      intro X hX
      go_simp
      try rfl
    simp only [Act.put, List.setIfInBounds_toArray, List.set_cons_zero, List.set_cons_succ]
    refine' hw_take 15 (some 4) _ rfl rfl (by kernel_rfl) (by kernel_rfl) (by kernel_rfl) (fun _ _ _ h => h) (by rfl) hH ?hy72 ?rest72
    case hy72 =>
      intro X hX
      go_simp
      try rfl
    simp only [Act.put, List.setIfInBounds_toArray, List.set_cons_zero, List.set_cons_succ]
    refine wpAnyH_done (by kernel_rfl) ?_ _
    go_wp2
    go_ret
    exact ⟨ret_bool HR2.out, (New.refl _).drew⟩
  · have HR2 : Hid (false = pxF xs ys) := by unfold Hid; rw [← HR.out]; simp [h]
    have e9 : ¬ str9 (ys.take m) = str9 xs := fun e => h (str9_inj hlt1 hlt2 e)
    have s1 := str_eq_of e9
    have s2 := str_list_of e9
    have HE : Hid (¬ str9 (ys.take m) = str9 xs) := e9
    clear h HR hlt1 hlt2 e9
    generalize str9 (ys.take m) = S8 at *
    generalize str9 xs = S9 at *
    go_enter Tryz.func76, Tryz.ntmps76
    go_upto_region 1 with fail
    refine hw_start (n := 16) (S := fun X => New w X) rfl (by kernel_rfl) ((New.refl _).drew) (fun hH => ?_)
    refine' hw_take 0 (some 5) _ rfl rfl (by kernel_rfl) (by kernel_rfl) (by kernel_rfl) (fun _ _ _ h => h) (by rfl) hH ?hy73 ?rest73
    case hy73 =>
      intro X hX
      go_simp
      try rfl
    simp only [Act.put, List.setIfInBounds_toArray, List.set_cons_zero, List.set_cons_succ]
    refine' hw_take 1 (some 6) _ rfl rfl (by kernel_rfl) (by kernel_rfl) (by kernel_rfl) (fun _ _ _ h => h) (by rfl) hH ?hy74 ?rest74
    case hy74 =>
      intro X hX
      go_simp
      try rfl
    simp only [Act.put, List.setIfInBounds_toArray, List.set_cons_zero, List.set_cons_succ]
    refine' hw_take 2 (some 7) _ rfl rfl (by kernel_rfl) (by kernel_rfl) (by kernel_rfl) (fun _ _ _ h => h) (by rfl) hH ?hy75 ?rest75
    case hy75 =>
      intro X hX
      go_simp
      try rfl
    simp only [Act.put, List.setIfInBounds_toArray, List.set_cons_zero, List.set_cons_succ]
    refine' hw_take 3 (some 8) _ rfl rfl (by kernel_rfl) (by kernel_rfl) (by kernel_rfl) (fun _ _ _ h => h) (by rfl) hH ?hy76 ?rest76
    case hy76 =>
      intro X hX
      go_simp
      try rfl
    simp only [Act.put, List.setIfInBounds_toArray, List.set_cons_zero, List.set_cons_succ]
    refine' hw_take 4 (some 9) (.bool true) rfl rfl (by kernel_rfl) (by kernel_rfl) (by kernel_rfl) (fun _ _ _ h => h) (by rfl) hH ?hyL77 ?restL77
    case hyL77 =>
      intro X hX
      go_simp
      try rfl
    simp only [Act.put, List.setIfInBounds_toArray, List.set_cons_zero, List.set_cons_succ]
    refine' hw_take 5 (some 10) _ rfl rfl (by kernel_rfl) (by kernel_rfl) (by kernel_rfl) (fun _ _ _ h => h) (by rfl) hH ?hy78 ?rest78
    case hy78 =>
      intro X hX
      go_simp
      try rfl
    simp only [Act.put, List.setIfInBounds_toArray, List.set_cons_zero, List.set_cons_succ]
    refine' hw_take 6 (some 11) _ rfl rfl (by kernel_rfl) (by kernel_rfl) (by kernel_rfl) (fun _ _ _ h => h) (by rfl) hH ?hy79 ?rest79
    case hy79 =>
      intro X hX
      go_simp
      try rfl
    simp only [Act.put, List.setIfInBounds_toArray, List.set_cons_zero, List.set_cons_succ]
    refine' hw_take 7 (some 12) _ rfl rfl (by kernel_rfl) (by kernel_rfl) (by kernel_rfl) (fun _ _ _ h => h) (by rfl) hH ?hy80 ?rest80
    case hy80 =>
      intro X hX
      go_simp
      try rfl
    simp only [Act.put, List.setIfInBounds_toArray, List.set_cons_zero, List.set_cons_succ]
    refine' hw_take 8 (some 13) _ rfl rfl (by kernel_rfl) (by kernel_rfl) (by kernel_rfl) (fun _ _ _ h => h) (by rfl) hH ?hy81 ?rest81
    case hy81 =>
      intro X hX
      go_simp
      try rfl
    simp only [Act.put, List.setIfInBounds_toArray, List.set_cons_zero, List.set_cons_succ]
    refine' hw_take 9 (some 14) (.slice y m f) rfl rfl (by kernel_rfl) (by kernel_rfl) (by kernel_rfl) (fun _ _ _ h => h) (by rfl) hH ?hyS82 ?restS82
    case hyS82 =>
      intro X hX
      have hc := hcut X
      unfold execOp
      go_simp
      try exact hc
    simp only [Act.put, List.setIfInBounds_toArray, List.set_cons_zero, List.set_cons_succ]
    refine' hw_take 10 (some 15) (.string S8) rfl rfl (by kernel_rfl) (by kernel_rfl) (by kernel_rfl) (fun _ _ _ h => h) (by rfl) hH ?hyL83 ?restL83
    case hyL83 =>
      intro X hX
      have rX := RS.out.1 X hX
      unfold execOp
      go_simp
      try (rw [rX]; rfl)
    simp only [Act.put, List.setIfInBounds_toArray, List.set_cons_zero, List.set_cons_succ]
    refine' hw_take 11 (some 16) _ rfl rfl (by kernel_rfl) (by kernel_rfl) (by kernel_rfl) (fun _ _ _ h => h) (by rfl) hH ?hy84 ?rest84
    case hy84 =>
      intro X hX
      go_simp
      try rfl
    simp only [Act.put, List.setIfInBounds_toArray, List.set_cons_zero, List.set_cons_succ]
    refine' hw_take 12 (some 17) (.string S9) rfl rfl (by kernel_rfl) (by kernel_rfl) (by kernel_rfl) (fun _ _ _ h => h) (by rfl) hH ?hyL85 ?restL85
    case hyL85 =>
      intro X hX
      have rX := RS.out.2 X hX
      unfold execOp
      go_simp
      try (rw [rX]; rfl)
    simp only [Act.put, List.setIfInBounds_toArray, List.set_cons_zero, List.set_cons_succ]
    refine' hw_take 13 (some 18) (.bool false) rfl rfl (by kernel_rfl) (by kernel_rfl) (by kernel_rfl) (fun _ _ _ h => h) (by rfl) hH ?hyL86 ?restL86
    case hyL86 =>
      intro X hX
      go_simp
      try rfl
    simp only [Act.put, List.setIfInBounds_toArray, List.set_cons_zero, List.set_cons_succ]
    refine' hw_take 14 (some 19) _ rfl rfl (by kernel_rfl) (by kernel_rfl) (by kernel_rfl) (fun _ _ _ h => h) (by rfl) hH ?hy87 ?rest87
    case hy87 =>
      intro X hX
      go_simp
      try rfl
    simp only [Act.put, List.setIfInBounds_toArray, List.set_cons_zero, List.set_cons_succ]
    refine' hw_take 15 (some 4) _ rfl rfl (by kernel_rfl) (by kernel_rfl) (by kernel_rfl) (fun _ _ _ h => h) (by rfl) hH ?hy88 ?rest88
    case hy88 =>
      intro X hX
      go_simp
      try rfl
    simp only [Act.put, List.setIfInBounds_toArray, List.set_cons_zero, List.set_cons_succ]
    refine wpAnyH_done (by kernel_rfl) ?_ _
    go_wp2
    go_ret
    exact ⟨ret_bool HR2.out, (New.refl _).drew⟩

end Go.Proofs.YtkbdmcimgepakaaGreat

namespace Go.Proofs.YtkbdmcimgepakaaGreat
open Go.ChangeShapes Go.WideShapes Go.ChangeAt Go.RowKit
set_option linter.unusedVariables false
set_option linter.unusedSimpArgs false

set_option maxRecDepth 100000

/-- What was taken of a peer is right. -/
def trF (p : Int) (x : Int × Int × List Int × List Int) (S : List Ek) : List (Int × Bool × Int × Int × Int × Int × Int × Int × List Ek) → Bool
  | [] => decide (x.2.1 ≤ ((inF p S).length : Int))
  | y :: L => if pxF (inF p y.2.2.2.2.2.2.2.2) x.2.2.1 then trF p x S L else false
theorem trF_at {p : Int} {x : Int × Int × List Int × List Int} {S : List Ek} {L : List (Int × Bool × Int × Int × Int × Int × Int × Int × List Ek)} {k : Nat} {y : Int × Bool × Int × Int × Int × Int × Int × Int × List Ek} (h : L[k]? = some y) : trF p x S (L.drop k) = if pxF (inF p y.2.2.2.2.2.2.2.2) x.2.2.1 then trF p x S (L.drop (k + 1)) else false := by
  obtain ⟨hk, e⟩ := List.getElem?_eq_some_iff.1 h
  rw [List.drop_eq_getElem_cons hk, trF, e]
theorem trF_end {p : Int} {x : Int × Int × List Int × List Int} {S : List Ek} {L : List (Int × Bool × Int × Int × Int × Int × Int × Int × List Ek)} {k : Nat} (h : L.length ≤ k) : trF p x S (L.drop k) = decide (x.2.1 ≤ ((inF p S).length : Int)) := by
  rw [List.drop_eq_nil_of_le h]; rfl
def tkV (p : Nat) (W : List (Int × Int × List Int × List Int)) (S : List Ek) (N : List (Int × Bool × Int × Int × Int × Int × Int × Int × List Ek)) : Bool :=
  match W[p]? with
  | some x => trF p x S N
  | none => false
theorem lgF_en {E a : Int} {L : List Ek} (h : lgF E a L = 0) : ∀ x ∈ L, enF x.ep x.ki x.pe x.xs.length = 0 := by
  induction L generalizing a with
  | nil => intro x hx; cases hx
  | cons y L ih =>
    simp only [lgF] at h
    by_cases h1 : enF y.ep y.ki y.pe y.xs.length = 0
    · rw [if_neg (not_not_intro h1)] at h
      split at h
      · exact absurd h (by decide)
      · intro x hx
        rcases List.mem_cons.1 hx with rfl | hx
        · exact h1
        · exact ih h x hx
    · rw [if_pos h1] at h; exact absurd h h1
theorem enF_ki {e k p : Int} {n : Nat} (h : enF e k p n = 0) : k = 2 ∨ n = 0 := by
  unfold enF at h
  split at h
  · exact absurd h (by decide)
  · unfold evF at h
    by_cases hk : k = 2
    · exact .inl hk
    · right
      repeat' split at h
      all_goals first | omega | contradiction
theorem ffF_zero {α : Type} {g : α → Int} {L : List α} (h : ffF g L = 0) : ∀ x ∈ L, g x = 0 := by
  induction L with
  | nil => intro x hx; cases hx
  | cons y L ih =>
    simp only [ffF] at h
    by_cases h1 : g y = 0
    · rw [if_neg (not_not_intro h1)] at h
      intro x hx
      rcases List.mem_cons.1 hx with rfl | hx
      · exact h1
      · exact ih h x hx
    · rw [if_pos h1] at h; exact absurd h h1
/-- In a pair without a fault only inputs have bytes. -/
theorem pF_ki {sa si ho nx : Int} {r1 r2 : List Ru} {N : List (Int × Bool × Int × Int × Int × Int × Int × Int × List Ek)} {W : List (Int × Int × List Int × List Int)} {M : List Ml} {S : List Ek} (h : pF sa si ho nx r1 r2 N W M S = 0) : (∀ y ∈ N, ∀ x ∈ y.2.2.2.2.2.2.2.2, x.ki = 2 ∨ x.xs = []) ∧ ∀ x ∈ S, x.ki = 2 ∨ x.xs = [] := by
  have hl := pF_two h
  unfold pF at h
  have h1 := (q1F_zero h).2
  rw [if_neg (by rw [Decidable.not_not]; exact hl)] at h1
  have h2 := (q1F_zero h1).1
  have h3 := (q1F_zero (q1F_zero (q1F_zero h1).2).2).2
  have kx : ∀ x : Ek, enF x.ep x.ki x.pe x.xs.length = 0 → x.ki = 2 ∨ x.xs = [] := by
    intro x hx
    rcases enF_ki hx with h | h
    · exact .inl h
    · exact .inr (List.eq_nil_of_length_eq_zero h)
  have key : ∀ (k : Int) (y : Int × Bool × Int × Int × Int × Int × Int × Int × List Ek), n1F k y = 0 → ∀ x ∈ y.2.2.2.2.2.2.2.2, x.ki = 2 ∨ x.xs = [] := by
    intro k y hy
    obtain ⟨id, up, ro, ep, su, ma, ot, co, L⟩ := y
    simp only [n1F] at hy
    by_cases hf : nF id up ro ep su ma ot co L.length L = 0
    · exact fun x hx => kx x (lgF_en (nF_ok id up ro ep su ma ot co L.length L hf).2.2.1 x hx)
    · rw [if_pos hf] at hy; exact absurd hy hf
  refine ⟨?_, ?_⟩
  · match N, hl.1 with
    | [y1, y2], _ =>
      simp only [ndF] at h2
      have hx : n1F 0 y1 = 0 := by
        by_cases h3 : n1F 0 y1 = 0
        · exact h3
        · rw [if_pos h3] at h2; exact h2
      rw [if_neg (by rw [Decidable.not_not]; exact hx)] at h2
      intro z hz
      simp only [List.mem_cons, List.not_mem_nil, or_false] at hz
      rcases hz with rfl | rfl
      · exact key 0 _ hx
      · exact key 1 _ h2
  · unfold seF at h3
    split at h3
    · exact absurd h3 (by decide)
    · exact fun x hx => kx x (ffF_zero h3 x hx)

set_option maxHeartbeats 12800000 in
theorem takI (sa si ho nx : Int) (a1 a2 aN aW aM aS : Option Addr) (n1 c1 n2 c2 cN cW nM cM nS cS : Nat) (r1 r2 : List Ru) (LN : List NdV) (LW : List WiV) (LS : List EkV) (B j : Nat) (w : World) (hb : Blk w B 44 #[.int .i64 sa, .int .i64 si, .int .i64 ho, .int .i64 nx, .slice a1 n1 c1, .slice a2 n2 c2, .slice aN 2 cN, .slice aW 3 cW, .slice aM nM cM, .slice aS nS cS]) (hN : NdAt w aN LN) (hW : WiAt w aW LW) (hS : LgAt w aS LS) (lN : LN.length = 2) (lW : LW.length = 3) (lS : LS.length = nS) (hj : j < 3) (nlN : ∀ v ∈ LN, NlK v.V) (nlS : NlK LS) (fitW : ∀ v ∈ LW, FitK v.a v.xs.length v.c ∧ FitK v.b v.ys.length v.d) (tS : totK LS ≤ 1048576) (kiN : ∀ u ∈ LN, ∀ v ∈ u.V, v.r.ki = 2 ∨ v.r.xs = []) (kiS : ∀ v ∈ LS, v.r.ki = 2 ∨ v.r.xs = []) (v : Bool) (hv : tkV j (LW.map WiV.r) (LS.map EkV.r) (LN.map NdV.r) = v) :
    Calls Tryz.prog 42 #[.pointer (some ⟨B, 0, none⟩), .int .i64 (j : Int)] w fun e w' => e = .returned (.bool v) ∧ New w w' := by
  obtain ⟨gW, E, T, y, y2, q, f, q2, f2, ys, zs, hgW, hvW, hlW, hlW2, hyW, hyW2, hmW, hmW2, c0, c1', c2', c3'⟩ := hW.at j (by omega)
  subst hgW
  have hfW := (fitW _ (List.mem_of_getElem? hvW)).1
  simp only at hfW
  rw [hlW] at hfW
  have HYL : Hid (ys.length = q) := hlW
  have HN : Hid (LN.length = 2) := lN
  have HLS : Hid (LS.length = nS) := lS
  have HFT : Hid ((∀ v ∈ LN, NlK v.V) ∧ NlK LS ∧ FitK y q f ∧ (∀ u ∈ LN, ∀ v ∈ u.V, v.r.ki = 2 ∨ v.r.xs = []) ∧ ∀ v ∈ LS, v.r.ki = 2 ∨ v.r.xs = []) := ⟨nlN, nlS, hfW, kiN, kiS⟩
  have HF : Hid (trF (j : Int) (E, T, ys, zs) (LS.map EkV.r) ((LN.map NdV.r).drop 0) = v) := by
    unfold Hid
    rw [← hv]
    unfold tkV
    rw [List.getElem?_map, hvW]
    rfl
  have dj : (j : Int) < 3 := by omega
  have HS1 : Hid (nS ≤ 1048576) := by unfold Hid; have := totK_len LS; omega
  have cB := hb.cells
  clear hv lN lS nlN nlS fitW kiN kiS hfW hlW hlW2 hvW
  go_enter Tryz.func42, Tryz.ntmps42
  have al0 := (New.refl w).alloc (.cells #[.int .i64 E, .slice y q f, .int .i64 T, .slice y2 q2 f2] 91)
  have bw := Blk.mk w w.heap.size 91 #[.int .i64 E, .slice y q f, .int .i64 T, .slice y2 q2 f2] rfl
  have hb0 := hb.new al0
  go_upto_region 2 with fail
  generalize w.alloc (.cells #[.int .i64 E, .slice y q f, .int .i64 T, .slice y2 q2 f2] 91) = w0 at *
  clear c0 c1' c2' c3' cB
  have cB := hb0.cells
  go_wp2
  go_loopw [20] (fun i wr => ∃ (k : Nat), k ≤ 2 ∧ i = .int .i64 k ∧ New w0 wr ∧ Hid (trF (j : Int) (E, T, ys, zs) (LS.map EkV.r) ((LN.map NdV.r).drop k) = v)) (fun i _ => 2 - (intOf i).toNat)
  case atStart => exact ⟨0, Nat.zero_le _, rfl, New.refl _, HF⟩
  case round =>
    obtain ⟨k, hk, rfl, hnw, hL⟩ := hrel
    by_cases hlt : k < 2
    case neg =>
      have HR : Hid (decide (T ≤ ((inF j (LS.map EkV.r)).length : Int)) = v) := by unfold Hid; have := hL.out; rw [trF_end (by have := HN.out; simp; omega)] at this; exact this
      have bw1 := bw.new hnw
      have hb1 := hb0.new hnw
      have hS1 := ((hS.new al0).new hnw)
      have hd2 : ¬ (k : Int) < 2 := by omega
      have hd3 : decide ((k : Int) < 2) = false := by simp; omega
      clear hL
      go_upto_region 8 with fail
      refine hw_start (n := 10) (S := fun X => New wr X) rfl (by kernel_rfl) ((New.refl _).drew) (fun hH => ?_)
      refine' hw_take 0 (some 33) _ rfl rfl (by kernel_rfl) (by kernel_rfl) (by kernel_rfl) (fun _ _ _ h => h) (by rfl) hH ?hy49 ?rest49
      case hy49 =>
        intro X hX
        go_simp
        try rfl
      simp only [Act.put, List.setIfInBounds_toArray, List.set_cons_zero, List.set_cons_succ]
      refine' hw_take 1 (some 34) _ rfl rfl (by kernel_rfl) (by kernel_rfl) (by kernel_rfl) (fun _ _ _ h => h) (by rfl) hH ?hy50 ?rest50
      case hy50 =>
        intro X hX
        have cX := (bw1.new hX).cells
        have cY := (hb1.new hX).cells
        go_simp
        try rfl
      simp only [Act.put, List.setIfInBounds_toArray, List.set_cons_zero, List.set_cons_succ]
      refine' hw_take 2 (some 35) _ rfl rfl (by kernel_rfl) (by kernel_rfl) (by kernel_rfl) (fun _ _ _ h => h) (by rfl) hH ?hy51 ?rest51
      case hy51 =>
        intro X hX
        go_simp
        try rfl
      simp only [Act.put, List.setIfInBounds_toArray, List.set_cons_zero, List.set_cons_succ]
      refine' hw_take 3 (some 36) _ rfl rfl (by kernel_rfl) (by kernel_rfl) (by kernel_rfl) (fun _ _ _ h => h) (by rfl) hH ?hy52 ?rest52
      case hy52 =>
        intro X hX
        go_simp
        try rfl
      simp only [Act.put, List.setIfInBounds_toArray, List.set_cons_zero, List.set_cons_succ]
      refine' hw_take 4 (some 37) _ rfl rfl (by kernel_rfl) (by kernel_rfl) (by kernel_rfl) (fun _ _ _ h => h) (by rfl) hH ?hy53 ?rest53
      case hy53 =>
        intro X hX
        go_simp
        try rfl
      simp only [Act.put, List.setIfInBounds_toArray, List.set_cons_zero, List.set_cons_succ]
      refine' hw_take 5 (some 38) _ rfl rfl (by kernel_rfl) (by kernel_rfl) (by kernel_rfl) (fun _ _ _ h => h) (by rfl) hH ?hy54 ?rest54
      case hy54 =>
        intro X hX
        have cX := (bw1.new hX).cells
        have cY := (hb1.new hX).cells
        go_simp
        try rfl
      simp only [Act.put, List.setIfInBounds_toArray, List.set_cons_zero, List.set_cons_succ]
      refine' hw_take 6 (some 39) _ rfl rfl (by kernel_rfl) (by kernel_rfl) (by kernel_rfl) (fun _ _ _ h => h) (by rfl) hH ?hy55 ?rest55
      case hy55 =>
        intro X hX
        go_simp
        try rfl
      simp only [Act.put, List.setIfInBounds_toArray, List.set_cons_zero, List.set_cons_succ]
      refine hw_call 7 (some 40) rfl rfl (by kernel_rfl) (by rfl) (fun K hK => ?_)
      go_simp
      refine (inSz_any (j : Int) aS nS cS LS _ (hS1.new hH) HLS.out tS).mono ?_
      rintro e wb ⟨rfl, hnb⟩
      generalize (inF j (LS.map EkV.r)).length = L0 at *
      go_simp
      refine hK.out _ _ (hH.trans hnb) (fun hH2 => ?_)
      simp only [Act.put, List.setIfInBounds_toArray, List.set_cons_zero, List.set_cons_succ]
      refine' hw_take 8 (some 41) _ rfl rfl (by kernel_rfl) (by kernel_rfl) (by kernel_rfl) (fun _ _ _ h => h) (by rfl) hH2 ?hy56 ?rest56
      case hy56 =>
        intro X hX
        go_simp
        try rfl
      simp only [Act.put, List.setIfInBounds_toArray, List.set_cons_zero, List.set_cons_succ]
      refine' hw_take 9 (some 4) _ rfl rfl (by kernel_rfl) (by kernel_rfl) (by kernel_rfl) (fun _ _ _ h => h) (by rfl) hH2 ?hy57 ?rest57
      case hy57 =>
        intro X hX
        go_simp
        try rfl
      simp only [Act.put, List.setIfInBounds_toArray, List.set_cons_zero, List.set_cons_succ]
      refine wpAnyH_done (by kernel_rfl) ?_ _
      go_wp2
      go_ret
      exact ⟨ret_bool HR.out, (al0.trans hnw).trans (hH.trans hnb)⟩
    obtain ⟨g, id, up, ro, ep, su, ma, ot, co, x, m, d, xs, hg, hvv, hl, hx, hmx, q0, q1, q2, q3, q4, q5, q6, q7, q8⟩ := (hN.new (al0.trans hnw)).at k (by have := HN.out; omega)
    subst hg
    have hmem := List.mem_of_getElem? hvv
    have HNX : Hid (NlK xs ∧ (∀ v ∈ xs, v.r.ki = 2 ∨ v.r.xs = []) ∧ xs.length = m ∧ totK xs ≤ 1048576) := ⟨HFT.out.1 _ hmem, HFT.out.2.2.2.1 _ hmem, hl, hmx⟩
    have HD : Hid ((if pxF (inF j (xs.map EkV.r)) ys then trF (j : Int) (E, T, ys, zs) (LS.map EkV.r) ((LN.map NdV.r).drop (k + 1)) else false) = v) := by
      unfold Hid
      have h1 := trF_at (p := (j : Int)) (x := (E, T, ys, zs)) (S := (LS.map EkV.r)) (y := (id, up, ro, ep, su, ma, ot, co, xs.map EkV.r)) (L := (LN.map NdV.r)) (k := k) (by rw [List.getElem?_map, hvv]; rfl)
      have h2 := hL.out
      rw [h1] at h2
      exact h2
    have hk2 : (k : Int) < 2 := by omega
    clear hvv hl hL hmx hmem
    have al := (New.refl wr).alloc (.cells #[.int .i64 id, .bool up, .int .i64 ro, .int .i64 ep, .slice x m d, .int .i64 su, .int .i64 ma, .int .i64 ot, .int .i64 co] 98)
    have bx := Blk.mk wr wr.heap.size 98 #[.int .i64 id, .bool up, .int .i64 ro, .int .i64 ep, .slice x m d, .int .i64 su, .int .i64 ma, .int .i64 ot, .int .i64 co] rfl
    have bw1 := (bw.new hnw).new al
    have hx1 := hx.new al
    have hyW1 := (((hyW.new al0).new hnw).new al)
    have hnw1 := hnw.trans al
    · skip
      go_upto_region 5 with fail
      generalize wr.alloc (.cells #[.int .i64 id, .bool up, .int .i64 ro, .int .i64 ep, .slice x m d, .int .i64 su, .int .i64 ma, .int .i64 ot, .int .i64 co] 98) = wa at *
      clear q0 q1 q2 q3 q4 q5 q6 q7 q8
      refine hw_start (n := 8) (S := fun X => New wa X) rfl (by kernel_rfl) ((New.refl _).drew) (fun hH => ?_)
      refine' hw_take 0 (some 24) _ rfl rfl (by kernel_rfl) (by kernel_rfl) (by kernel_rfl) (fun _ _ _ h => h) (by rfl) hH ?hy58 ?rest58
      case hy58 =>
        intro X hX
        go_simp
        try rfl
      simp only [Act.put, List.setIfInBounds_toArray, List.set_cons_zero, List.set_cons_succ]
      refine' hw_take 1 (some 25) _ rfl rfl (by kernel_rfl) (by kernel_rfl) (by kernel_rfl) (fun _ _ _ h => h) (by rfl) hH ?hy59 ?rest59
      case hy59 =>
        intro X hX
        have cX := (bw1.new hX).cells
        have cY := (bx.new hX).cells
        go_simp
        try rfl
      simp only [Act.put, List.setIfInBounds_toArray, List.set_cons_zero, List.set_cons_succ]
      refine' hw_take 2 (some 26) _ rfl rfl (by kernel_rfl) (by kernel_rfl) (by kernel_rfl) (fun _ _ _ h => h) (by rfl) hH ?hy60 ?rest60
      case hy60 =>
        intro X hX
        go_simp
        try rfl
      simp only [Act.put, List.setIfInBounds_toArray, List.set_cons_zero, List.set_cons_succ]
      refine' hw_take 3 (some 27) _ rfl rfl (by kernel_rfl) (by kernel_rfl) (by kernel_rfl) (fun _ _ _ h => h) (by rfl) hH ?hy61 ?rest61
      case hy61 =>
        intro X hX
        have cX := (bw1.new hX).cells
        have cY := (bx.new hX).cells
        go_simp
        try rfl
      simp only [Act.put, List.setIfInBounds_toArray, List.set_cons_zero, List.set_cons_succ]
      refine' hw_take 4 (some 28) _ rfl rfl (by kernel_rfl) (by kernel_rfl) (by kernel_rfl) (fun _ _ _ h => h) (by rfl) hH ?hy62 ?rest62
      case hy62 =>
        intro X hX
        go_simp
        try rfl
      simp only [Act.put, List.setIfInBounds_toArray, List.set_cons_zero, List.set_cons_succ]
      refine hw_call 5 (some 29) rfl rfl (by kernel_rfl) (by rfl) (fun K hK => ?_)
      go_simp
      refine (inOf_any (j : Int) x m d xs _ (hx1.new hH) HNX.out.1 HNX.out.2.2.1 HNX.out.2.2.2).mono ?_
      rintro e wb ⟨u, rfl, hu, hnb⟩
      have hby := inF_by hx (j : Int)
      have hln := inF_len (j : Int) xs
      obtain ⟨ua, uc, rfl, hub, -, -, -⟩ := hu.bs hby
      have HLL : Hid (∃ l, l = (inF (j : Int) (xs.map EkV.r)).length ∧ l ≤ 1048576) := ⟨_, rfl, by have := HNX.out.2.2.2; omega⟩
      obtain ⟨l, hl, hl2⟩ := HLL.out
      have HL2 : Hid (l = (inF (j : Int) (xs.map EkV.r)).length) := hl
      rw [← hl]
      clear hl hln
      go_simp
      refine hK.out _ _ (hH.trans hnb) (fun hH2 => ?_)
      simp only [Act.put, List.setIfInBounds_toArray, List.set_cons_zero, List.set_cons_succ]
      refine hw_call 6 (some 30) rfl rfl (by kernel_rfl) (by rfl) (fun K hK => ?_)
      go_simp
      refine (hasP_any ua y l uc q f (inF (j : Int) (xs.map EkV.r)) ys _ hub (hyW1.new hH2) HL2.out.symm HYL.out HFT.out.2.2.1 (by omega) (by omega)).mono ?_
      rintro e wz ⟨rfl, hwz⟩
      obtain rfl := hwz.symm
      generalize pxF (inF (j : Int) (xs.map EkV.r)) ys = b at *
      go_simp
      refine hK.out _ _ hH2 (fun hH3 => ?_)
      simp only [Act.put, List.setIfInBounds_toArray, List.set_cons_zero, List.set_cons_succ]
      refine' hw_take 7 (some 31) _ rfl rfl (by kernel_rfl) (by kernel_rfl) (by kernel_rfl) (fun _ _ _ h => h) (by rfl) hH3 ?hy63 ?rest63
      case hy63 =>
        intro X hX
        go_simp
        try rfl
      simp only [Act.put, List.setIfInBounds_toArray, List.set_cons_zero, List.set_cons_succ]
      refine wpAnyH_done (by kernel_rfl) ?_ _
      cases b with
      | true =>
        have HR : Hid (trF (j : Int) (E, T, ys, zs) (LS.map EkV.r) ((LN.map NdV.r).drop (k + 1)) = v) := by unfold Hid; have := HD.out; simpa using this
        clear HD
        go_wp2
        go_roundw
        case rel => exact ⟨k + 1, by omega, by go_num, hnw1.trans hH2, HR⟩
        case measure => simp [intOf]; omega
      | false =>
        have HR : Hid (false = v) := by unfold Hid; have := HD.out; simpa using this
        clear HD
        go_wp2
        go_ret
        exact ⟨ret_bool HR.out, al0.trans (hnw1.trans hH2)⟩

end Go.Proofs.YtkbdmcimgepakaaGreat

namespace Go.Proofs.YtkbdmcimgepakaaGreat
open Go.ChangeShapes Go.WideShapes Go.ChangeAt Go.RowKit
set_option linter.unusedVariables false
set_option linter.unusedSimpArgs false

set_option maxRecDepth 100000

set_option maxHeartbeats 12800000 in
theorem takS (sa si ho nx : Int) (a1 a2 aN aW aM aS : Option Addr) (n1 c1 n2 c2 cN cW nM cM nS cS : Nat) (r1 r2 : List Ru) (LN : List NdV) (LW : List WiV) (LS : List EkV) (B j : Nat) (w : World) (hb : Blk w B 44 #[.int .i64 sa, .int .i64 si, .int .i64 ho, .int .i64 nx, .slice a1 n1 c1, .slice a2 n2 c2, .slice aN 2 cN, .slice aW 3 cW, .slice aM nM cM, .slice aS nS cS]) (hN : NdAt w aN LN) (hW : WiAt w aW LW) (hS : LgAt w aS LS) (lN : LN.length = 2) (lW : LW.length = 3) (lS : LS.length = nS) (hj : j < 3) (nlN : ∀ v ∈ LN, NlK v.V) (nlS : NlK LS) (fitW : ∀ v ∈ LW, FitK v.a v.xs.length v.c ∧ FitK v.b v.ys.length v.d) (tS : totK LS ≤ 1048576) (kiN : ∀ u ∈ LN, ∀ v ∈ u.V, v.r.ki = 2 ∨ v.r.xs = []) (kiS : ∀ v ∈ LS, v.r.ki = 2 ∨ v.r.xs = []) (v : Bool) (hv : tkV j (LW.map WiV.r) (LS.map EkV.r) (LN.map NdV.r) = v) :
    Calls Tryz.prog 40 #[.pointer (some ⟨B, 0, none⟩), .int .i64 (j : Int)] w fun e w' => e = .returned (.bool v) ∧ New w w' := by
  obtain ⟨gW, E, T, y, y2, q, f, q2, f2, ys, zs, hgW, hvW, hlW, hlW2, hyW, hyW2, hmW, hmW2, c0, c1', c2', c3'⟩ := hW.at j (by omega)
  subst hgW
  have hfW := (fitW _ (List.mem_of_getElem? hvW)).1
  simp only at hfW
  rw [hlW] at hfW
  have HYL : Hid (ys.length = q) := hlW
  have HN : Hid (LN.length = 2) := lN
  have HLS : Hid (LS.length = nS) := lS
  have HFT : Hid ((∀ v ∈ LN, NlK v.V) ∧ NlK LS ∧ FitK y q f ∧ (∀ u ∈ LN, ∀ v ∈ u.V, v.r.ki = 2 ∨ v.r.xs = []) ∧ ∀ v ∈ LS, v.r.ki = 2 ∨ v.r.xs = []) := ⟨nlN, nlS, hfW, kiN, kiS⟩
  have HF : Hid (trF (j : Int) (E, T, ys, zs) (LS.map EkV.r) ((LN.map NdV.r).drop 0) = v) := by
    unfold Hid
    rw [← hv]
    unfold tkV
    rw [List.getElem?_map, hvW]
    rfl
  have dj : (j : Int) < 3 := by omega
  have HS1 : Hid (nS ≤ 1048576) := by unfold Hid; have := totK_len LS; omega
  have cB := hb.cells
  clear hv lN lS nlN nlS fitW kiN kiS hfW hlW hlW2 hvW
  go_enter Tryz.func40, Tryz.ntmps40
  go_wp2
  go_loopw [6] (fun i wr => ∃ (k : Nat), k ≤ 2 ∧ i = .int .i64 k ∧ New w wr ∧ Hid (trF (j : Int) (E, T, ys, zs) (LS.map EkV.r) ((LN.map NdV.r).drop k) = v)) (fun i _ => 2 - (intOf i).toNat)
  case atStart => exact ⟨0, Nat.zero_le _, rfl, New.refl _, HF⟩
  case round =>
    obtain ⟨k, hk, rfl, hnw, hL⟩ := hrel
    have hb1 := hb.new hnw
    have w1c := hnw.cell c1'
    have w2c := hnw.cell c2'
    by_cases hlt : k < 2
    case neg =>
      have HR : Hid (decide (T ≤ ((inF j (LS.map EkV.r)).length : Int)) = v) := by unfold Hid; have := hL.out; rw [trF_end (by have := HN.out; simp; omega)] at this; exact this
      have hd2 : ¬ (k : Int) < 2 := by omega
      have hd3 : decide ((k : Int) < 2) = false := by simp; omega
      clear hL
      go_upto_region 7 with fail
      refine hw_start (n := 13) (S := fun X => New wr X) rfl (by kernel_rfl) ((New.refl _).drew) (fun hH => ?_)
      refine' hw_take 0 (some 33) _ rfl rfl (by kernel_rfl) (by kernel_rfl) (by kernel_rfl) (fun _ _ _ h => h) (by rfl) hH ?hy64 ?rest64
      case hy64 =>
        intro X hX
        go_simp
        try rfl
      simp only [Act.put, List.setIfInBounds_toArray, List.set_cons_zero, List.set_cons_succ]
      refine' hw_take 1 (some 34) _ rfl rfl (by kernel_rfl) (by kernel_rfl) (by kernel_rfl) (fun _ _ _ h => h) (by rfl) hH ?hy65 ?rest65
      case hy65 =>
        intro X hX
        go_simp
        try rfl
      simp only [Act.put, List.setIfInBounds_toArray, List.set_cons_zero, List.set_cons_succ]
      refine' hw_take 2 (some 35) _ rfl rfl (by kernel_rfl) (by kernel_rfl) (by kernel_rfl) (fun _ _ _ h => h) (by rfl) hH ?hy66 ?rest66
      case hy66 =>
        intro X hX
        go_simp
        try rfl
      simp only [Act.put, List.setIfInBounds_toArray, List.set_cons_zero, List.set_cons_succ]
      refine' hw_take 3 (some 36) _ rfl rfl (by kernel_rfl) (by kernel_rfl) (by kernel_rfl) (fun _ _ _ h => h) (by rfl) hH ?hy67 ?rest67
      case hy67 =>
        intro X hX
        have cX := hX.cell w2c
        have cY := (hb1.new hX).cells
        go_simp
        try rfl
      simp only [Act.put, List.setIfInBounds_toArray, List.set_cons_zero, List.set_cons_succ]
      refine' hw_take 4 (some 37) _ rfl rfl (by kernel_rfl) (by kernel_rfl) (by kernel_rfl) (fun _ _ _ h => h) (by rfl) hH ?hy68 ?rest68
      case hy68 =>
        intro X hX
        go_simp
        try rfl
      simp only [Act.put, List.setIfInBounds_toArray, List.set_cons_zero, List.set_cons_succ]
      refine' hw_take 5 (some 38) _ rfl rfl (by kernel_rfl) (by kernel_rfl) (by kernel_rfl) (fun _ _ _ h => h) (by rfl) hH ?hy69 ?rest69
      case hy69 =>
        intro X hX
        go_simp
        try rfl
      simp only [Act.put, List.setIfInBounds_toArray, List.set_cons_zero, List.set_cons_succ]
      refine' hw_take 6 (some 39) _ rfl rfl (by kernel_rfl) (by kernel_rfl) (by kernel_rfl) (fun _ _ _ h => h) (by rfl) hH ?hy70 ?rest70
      case hy70 =>
        intro X hX
        go_simp
        try rfl
      simp only [Act.put, List.setIfInBounds_toArray, List.set_cons_zero, List.set_cons_succ]
      refine' hw_take 7 (some 40) _ rfl rfl (by kernel_rfl) (by kernel_rfl) (by kernel_rfl) (fun _ _ _ h => h) (by rfl) hH ?hy71 ?rest71
      case hy71 =>
        intro X hX
        have cX := hX.cell w2c
        have cY := (hb1.new hX).cells
        go_simp
        try rfl
      simp only [Act.put, List.setIfInBounds_toArray, List.set_cons_zero, List.set_cons_succ]
      refine' hw_take 8 (some 41) _ rfl rfl (by kernel_rfl) (by kernel_rfl) (by kernel_rfl) (fun _ _ _ h => h) (by rfl) hH ?hy72 ?rest72
      case hy72 =>
        intro X hX
        go_simp
        try rfl
      simp only [Act.put, List.setIfInBounds_toArray, List.set_cons_zero, List.set_cons_succ]
      refine hw_call 9 (some 42) rfl rfl (by kernel_rfl) (by rfl) (fun K hK => ?_)
      go_simp
      refine (bytesS (j : Int) aS nS cS LS _ ((hS.new hnw).new hH) HFT.out.2.1 HFT.out.2.2.2.2 HLS.out tS).mono ?_
      rintro e wb ⟨u, rfl, hu, hnb⟩
      obtain ⟨ua, uc, rfl, -, -, -, -⟩ := hu.bs (inF_by hS (j : Int))
      generalize (inF j (LS.map EkV.r)).length = L0 at *
      go_simp
      refine hK.out _ _ (hH.trans hnb) (fun hH2 => ?_)
      simp only [Act.put, List.setIfInBounds_toArray, List.set_cons_zero, List.set_cons_succ]
      refine' hw_take 10 (some 43) _ rfl rfl (by kernel_rfl) (by kernel_rfl) (by kernel_rfl) (fun _ _ _ h => h) (by rfl) hH2 ?hy73 ?rest73
      case hy73 =>
        intro X hX
        go_simp
        try rfl
      simp only [Act.put, List.setIfInBounds_toArray, List.set_cons_zero, List.set_cons_succ]
      refine' hw_take 11 (some 44) _ rfl rfl (by kernel_rfl) (by kernel_rfl) (by kernel_rfl) (fun _ _ _ h => h) (by rfl) hH2 ?hy74 ?rest74
      case hy74 =>
        intro X hX
        go_simp
        try rfl
      simp only [Act.put, List.setIfInBounds_toArray, List.set_cons_zero, List.set_cons_succ]
      refine' hw_take 12 (some 4) _ rfl rfl (by kernel_rfl) (by kernel_rfl) (by kernel_rfl) (fun _ _ _ h => h) (by rfl) hH2 ?hy75 ?rest75
      case hy75 =>
        intro X hX
        go_simp
        try rfl
      simp only [Act.put, List.setIfInBounds_toArray, List.set_cons_zero, List.set_cons_succ]
      refine wpAnyH_done (by kernel_rfl) ?_ _
      go_wp2
      go_ret
      exact ⟨ret_bool HR.out, hnw.trans (hH.trans hnb)⟩
    obtain ⟨g, id, up, ro, ep, su, ma, ot, co, x, m, d, xs, hg, hvv, hl, hx, hmx, q0, q1, q2, q3, q4, q5, q6, q7, q8⟩ := (hN.new (hnw)).at k (by have := HN.out; omega)
    subst hg
    have hmem := List.mem_of_getElem? hvv
    have HNX : Hid (NlK xs ∧ (∀ v ∈ xs, v.r.ki = 2 ∨ v.r.xs = []) ∧ xs.length = m ∧ totK xs ≤ 1048576) := ⟨HFT.out.1 _ hmem, HFT.out.2.2.2.1 _ hmem, hl, hmx⟩
    have HD : Hid ((if pxF (inF j (xs.map EkV.r)) ys then trF (j : Int) (E, T, ys, zs) (LS.map EkV.r) ((LN.map NdV.r).drop (k + 1)) else false) = v) := by
      unfold Hid
      have h1 := trF_at (p := (j : Int)) (x := (E, T, ys, zs)) (S := (LS.map EkV.r)) (y := (id, up, ro, ep, su, ma, ot, co, xs.map EkV.r)) (L := (LN.map NdV.r)) (k := k) (by rw [List.getElem?_map, hvv]; rfl)
      have h2 := hL.out
      rw [h1] at h2
      exact h2
    have hk2 : (k : Int) < 2 := by omega
    clear hvv hl hL hmx hmem
    have hyW1 := hyW.new hnw
    · skip
      go_upto_region 5 with fail
      refine hw_start (n := 16) (S := fun X => New wr X) rfl (by kernel_rfl) ((New.refl _).drew) (fun hH => ?_)
      refine' hw_take 0 (some 17) _ rfl rfl (by kernel_rfl) (by kernel_rfl) (by kernel_rfl) (fun _ _ _ h => h) (by rfl) hH ?hy76 ?rest76
      case hy76 =>
        intro X hX
        go_simp
        try rfl
      simp only [Act.put, List.setIfInBounds_toArray, List.set_cons_zero, List.set_cons_succ]
      refine' hw_take 1 (some 18) _ rfl rfl (by kernel_rfl) (by kernel_rfl) (by kernel_rfl) (fun _ _ _ h => h) (by rfl) hH ?hy77 ?rest77
      case hy77 =>
        intro X hX
        go_simp
        try rfl
      simp only [Act.put, List.setIfInBounds_toArray, List.set_cons_zero, List.set_cons_succ]
      refine' hw_take 2 (some 19) _ rfl rfl (by kernel_rfl) (by kernel_rfl) (by kernel_rfl) (fun _ _ _ h => h) (by rfl) hH ?hy78 ?rest78
      case hy78 =>
        intro X hX
        go_simp
        try rfl
      simp only [Act.put, List.setIfInBounds_toArray, List.set_cons_zero, List.set_cons_succ]
      refine' hw_take 3 (some 20) _ rfl rfl (by kernel_rfl) (by kernel_rfl) (by kernel_rfl) (fun _ _ _ h => h) (by rfl) hH ?hy79 ?rest79
      case hy79 =>
        intro X hX
        have cX := hX.cell w1c
        have cY := (hb1.new hX).cells
        have cZ := hX.cell q4
        go_simp
        try rfl
      simp only [Act.put, List.setIfInBounds_toArray, List.set_cons_zero, List.set_cons_succ]
      refine' hw_take 4 (some 21) _ rfl rfl (by kernel_rfl) (by kernel_rfl) (by kernel_rfl) (fun _ _ _ h => h) (by rfl) hH ?hy80 ?rest80
      case hy80 =>
        intro X hX
        go_simp
        try rfl
      simp only [Act.put, List.setIfInBounds_toArray, List.set_cons_zero, List.set_cons_succ]
      refine' hw_take 5 (some 22) _ rfl rfl (by kernel_rfl) (by kernel_rfl) (by kernel_rfl) (fun _ _ _ h => h) (by rfl) hH ?hy81 ?rest81
      case hy81 =>
        intro X hX
        go_simp
        try rfl
      simp only [Act.put, List.setIfInBounds_toArray, List.set_cons_zero, List.set_cons_succ]
      refine' hw_take 6 (some 23) _ rfl rfl (by kernel_rfl) (by kernel_rfl) (by kernel_rfl) (fun _ _ _ h => h) (by rfl) hH ?hy82 ?rest82
      case hy82 =>
        intro X hX
        go_simp
        try rfl
      simp only [Act.put, List.setIfInBounds_toArray, List.set_cons_zero, List.set_cons_succ]
      refine' hw_take 7 (some 24) _ rfl rfl (by kernel_rfl) (by kernel_rfl) (by kernel_rfl) (fun _ _ _ h => h) (by rfl) hH ?hy83 ?rest83
      case hy83 =>
        intro X hX
        have cX := hX.cell w1c
        have cY := (hb1.new hX).cells
        have cZ := hX.cell q4
        go_simp
        try rfl
      simp only [Act.put, List.setIfInBounds_toArray, List.set_cons_zero, List.set_cons_succ]
      refine' hw_take 8 (some 25) _ rfl rfl (by kernel_rfl) (by kernel_rfl) (by kernel_rfl) (fun _ _ _ h => h) (by rfl) hH ?hy84 ?rest84
      case hy84 =>
        intro X hX
        go_simp
        try rfl
      simp only [Act.put, List.setIfInBounds_toArray, List.set_cons_zero, List.set_cons_succ]
      refine' hw_take 10 (some 27) _ rfl rfl (by kernel_rfl) (by kernel_rfl) (by kernel_rfl) (fun _ _ _ h => h) (by rfl) hH ?hy85 ?rest85
      case hy85 =>
        intro X hX
        go_simp
        try rfl
      simp only [Act.put, List.setIfInBounds_toArray, List.set_cons_zero, List.set_cons_succ]
      refine' hw_take 11 (some 28) _ rfl rfl (by kernel_rfl) (by kernel_rfl) (by kernel_rfl) (fun _ _ _ h => h) (by rfl) hH ?hy86 ?rest86
      case hy86 =>
        intro X hX
        go_simp
        try rfl
      simp only [Act.put, List.setIfInBounds_toArray, List.set_cons_zero, List.set_cons_succ]
      refine' hw_take 12 (some 29) _ rfl rfl (by kernel_rfl) (by kernel_rfl) (by kernel_rfl) (fun _ _ _ h => h) (by rfl) hH ?hy87 ?rest87
      case hy87 =>
        intro X hX
        go_simp
        try rfl
      simp only [Act.put, List.setIfInBounds_toArray, List.set_cons_zero, List.set_cons_succ]
      refine' hw_take 13 (some 30) _ rfl rfl (by kernel_rfl) (by kernel_rfl) (by kernel_rfl) (fun _ _ _ h => h) (by rfl) hH ?hy88 ?rest88
      case hy88 =>
        intro X hX
        have cX := hX.cell w1c
        have cY := (hb1.new hX).cells
        have cZ := hX.cell q4
        go_simp
        try rfl
      simp only [Act.put, List.setIfInBounds_toArray, List.set_cons_zero, List.set_cons_succ]
      refine hw_call 9 (some 26) rfl rfl (by kernel_rfl) (by rfl) (fun K hK => ?_)
      go_simp
      refine (bytesS (j : Int) x m d xs _ (hx.new hH) HNX.out.1 HNX.out.2.1 HNX.out.2.2.1 HNX.out.2.2.2).mono ?_
      rintro e wb ⟨u, rfl, hu, hnb⟩
      have hby := inF_by hx (j : Int)
      have hln := inF_len (j : Int) xs
      obtain ⟨ua, uc, rfl, hub, -, -, -⟩ := hu.bs hby
      have HLL : Hid (∃ l, l = (inF (j : Int) (xs.map EkV.r)).length ∧ l ≤ 1048576) := ⟨_, rfl, by have := HNX.out.2.2.2; omega⟩
      obtain ⟨l, hl, hl2⟩ := HLL.out
      have HL2 : Hid (l = (inF (j : Int) (xs.map EkV.r)).length) := hl
      rw [← hl]
      clear hl hln
      go_simp
      refine hK.out _ _ (hH.trans hnb) (fun hH2 => ?_)
      simp only [Act.put, List.setIfInBounds_toArray, List.set_cons_zero, List.set_cons_succ]
      refine hw_call 14 (some 31) rfl rfl (by kernel_rfl) (by rfl) (fun K hK => ?_)
      go_simp
      refine (begS ua y l uc q f (inF (j : Int) (xs.map EkV.r)) ys _ hub (hyW1.new hH2) HL2.out.symm HYL.out HFT.out.2.2.1 (by omega) (by omega)).mono ?_
      rintro e wz ⟨rfl, hnz⟩
      generalize pxF (inF (j : Int) (xs.map EkV.r)) ys = b at *
      go_simp
      refine hK.out _ _ (hH2.trans hnz) (fun hH3 => ?_)
      simp only [Act.put, List.setIfInBounds_toArray, List.set_cons_zero, List.set_cons_succ]
      refine' hw_take 15 (some 32) _ rfl rfl (by kernel_rfl) (by kernel_rfl) (by kernel_rfl) (fun _ _ _ h => h) (by rfl) hH3 ?hy89 ?rest89
      case hy89 =>
        intro X hX
        go_simp
        try rfl
      simp only [Act.put, List.setIfInBounds_toArray, List.set_cons_zero, List.set_cons_succ]
      refine wpAnyH_done (by kernel_rfl) ?_ _
      cases b with
      | true =>
        have HR : Hid (trF (j : Int) (E, T, ys, zs) (LS.map EkV.r) ((LN.map NdV.r).drop (k + 1)) = v) := by unfold Hid; have := HD.out; simpa using this
        clear HD
        go_wp2
        go_roundw
        case rel => exact ⟨k + 1, by omega, by go_num, hnw.trans (hH2.trans hnz), HR⟩
        case measure => simp [intOf]; omega
      | false =>
        have HR : Hid (false = v) := by unfold Hid; have := HD.out; simpa using this
        clear HD
        go_wp2
        go_ret
        exact ⟨ret_bool HR.out, hnw.trans (hH2.trans hnz)⟩

end Go.Proofs.YtkbdmcimgepakaaGreat

namespace Go.Proofs.YtkbdmcimgepakaaGreat
open Go.ChangeShapes Go.WideShapes Go.ChangeAt Go.RowKit
set_option linter.unusedVariables false
set_option linter.unusedSimpArgs false

set_option maxRecDepth 100000

set_option maxHeartbeats 3200000 in
theorem implTR (pe : Int) (sa si ho nx : Int) (a1 a2 aN aW aM aS : Option Addr) (n1 c1 n2 c2 nN cN nW cW nM cM nS cS : Nat) (r1 r2 : List Ru) (LN : List NdV) (LW : List WiV) (LM : List MlV) (LS : List EkV) (w : World) (h : PAt w a1 a2 aN aW aM aS r1 r2 LN LW LM LS) (l1 : r1.length = n1) (l2 : r2.length = n2) (lN : LN.length = nN) (lW : LW.length = nW) (lM : LM.length = nM) (lS : LS.length = nS) (m1 : n1 ≤ 1048576) (m2 : n2 ≤ 1048576) (mN : nN ≤ 1048576) (mW : nW ≤ 1048576) (mM : nM ≤ 1048576) (mS : nS ≤ 1048576) (tS : totK LS ≤ 1048576) (v : Bool) (hv : (decide (pF sa si ho nx r1 r2 (LN.map NdV.r) (LW.map WiV.r) (LM.map MlV.r) (LS.map EkV.r) = 0) && (decide (P9 pe) && tkV pe.toNat (LW.map WiV.r) (LS.map EkV.r) (LN.map NdV.r))) = v) :
    Calls Tryz.prog 15 #[.agg #[.int .i64 sa, .int .i64 si, .int .i64 ho, .int .i64 nx, .slice a1 n1 c1, .slice a2 n2 c2, .slice aN nN cN, .slice aW nW cW, .slice aM nM cM, .slice aS nS cS], .int .i64 pe] w fun e w' => e = .returned (.bool v) ∧ New w w' := by
  have hw := (New.refl w).alloc (.cells #[.int .i64 sa, .int .i64 si, .int .i64 ho, .int .i64 nx, .slice a1 n1 c1, .slice a2 n2 c2, .slice aN nN cN, .slice aW nW cW, .slice aM nM cM, .slice aS nS cS] 44)
  have b0 := Blk.mk w w.heap.size 44 #[.int .i64 sa, .int .i64 si, .int .i64 ho, .int .i64 nx, .slice a1 n1 c1, .slice a2 n2 c2, .slice aN nN cN, .slice aW nW cW, .slice aM nM cM, .slice aS nS cS] rfl
  have HV : Hid ((decide (pF sa si ho nx r1 r2 (LN.map NdV.r) (LW.map WiV.r) (LM.map MlV.r) (LS.map EkV.r) = 0) && (decide (P9 pe) && tkV pe.toNat (LW.map WiV.r) (LS.map EkV.r) (LN.map NdV.r))) = v) := hv
  clear hv
  obtain ⟨f, hf⟩ : ∃ f, pF sa si ho nx r1 r2 (LN.map NdV.r) (LW.map WiV.r) (LM.map MlV.r) (LS.map EkV.r) = f := ⟨_, rfl⟩
  have cb := b0.cells
  go_enter Tryz.func15, Tryz.ntmps15
  by_cases hf0 : f = 0
  case neg =>
    have HR : Hid (false = v) := by unfold Hid; have := HV.out; rw [show decide (pF sa si ho nx r1 r2 (LN.map NdV.r) (LW.map WiV.r) (LM.map MlV.r) (LS.map EkV.r) = 0) = false from by rw [hf]; simpa using hf0] at this; simpa using this
    have g : (f == 0) = false := by simp [hf0]
    go_wp2_with fail
    refine (implPaF sa si ho nx a1 a2 aN aW aM aS n1 c1 n2 c2 nN cN nW cW nM cM nS cS r1 r2 LN LW LM LS _ (h.new hw) l1 l2 lN lW lM lS m1 m2 mN mW mM mS f hf).mono ?_
    rintro e w1 ⟨rfl, hn1⟩
    clear cb
    go_wp2
    go_ret
    exact ⟨ret_bool HR.out, hw.trans hn1⟩
  have hfz : pF sa si ho nx r1 r2 (LN.map NdV.r) (LW.map WiV.r) (LM.map MlV.r) (LS.map EkV.r) = 0 := by rw [hf]; exact hf0
  have hl := pF_two hfz
  have HKI : Hid ((∀ y ∈ LN.map NdV.r, ∀ x ∈ y.2.2.2.2.2.2.2.2, x.ki = 2 ∨ x.xs = []) ∧ ∀ x ∈ LS.map EkV.r, x.ki = 2 ∨ x.xs = []) := pF_ki hfz
  rw [List.length_map, List.length_map, lN, lW] at hl
  have HLL : Hid (nN = 2 ∧ nW = 3) := hl
  clear hl
  have HR0 : Hid ((decide (P9 pe) && tkV pe.toNat (LW.map WiV.r) (LS.map EkV.r) (LN.map NdV.r)) = v) := by unfold Hid; have := HV.out; rw [show decide (pF sa si ho nx r1 r2 (LN.map NdV.r) (LW.map WiV.r) (LM.map MlV.r) (LS.map EkV.r) = 0) = true from by simpa using hfz] at this; simpa using this
  by_cases hp : P9 pe
  case neg =>
    have HR : Hid (false = v) := by unfold Hid; have := HR0.out; simpa [hp] using this
    clear HR0 HV
    have hc0 := implPaF sa si ho nx a1 a2 aN aW aM aS n1 c1 n2 c2 nN cN nW cW nM cM nS cS r1 r2 LN LW LM LS _ (h.new hw) l1 l2 lN lW lM lS m1 m2 mN mW mM mS 0 hfz
    clear hf0 hf hfz
    go_wp2_with fail
    refine hc0.mono ?_
    rintro e w1 ⟨rfl, hn1⟩
    clear cb
    go_wp2_with fail
    refine (peer9_no pe _ hp).mono ?_
    rintro e wz ⟨rfl, hwz⟩
    obtain rfl := hwz.symm
    go_wp2
    go_ret
    exact ⟨ret_bool HR.out, hw.trans hn1⟩
  have HR1 : Hid (tkV pe.toNat (LW.map WiV.r) (LS.map EkV.r) (LN.map NdV.r) = v) := by unfold Hid; have := HR0.out; simpa [hp] using this
  have hp3 : 0 ≤ pe ∧ pe < 3 := by unfold P9 at hp; omega
  obtain ⟨j, rfl⟩ : ∃ j : Nat, pe = (j : Int) := ⟨pe.toNat, by omega⟩
  have HR : Hid (tkV j (LW.map WiV.r) (LS.map EkV.r) (LN.map NdV.r) = v) := by unfold Hid; have := HR1.out; rw [Int.toNat_natCast] at this; exact this
  have hz0 := implPaF sa si ho nx a1 a2 aN aW aM aS n1 c1 n2 c2 nN cN nW cW nM cM nS cS r1 r2 LN LW LM LS _ (h.new hw) l1 l2 lN lW lM lS m1 m2 mN mW mM mS 0 hfz
  clear HV HR0 HR1 hf hf0 hfz
  obtain ⟨rfl, rfl⟩ := HLL.out
  have HRN : Hid (LN.length = 2) := lN
  have HRW : Hid (LW.length = 3) := lW
  clear lN lW
  go_wp2_with fail
  refine hz0.mono ?_
  rintro e w1 ⟨rfl, hn1⟩
  have hw1 := hw.trans hn1
  have b1 := b0.new hn1
  clear cb
  go_wp2_with fail
  refine (peer9_yes (j : Int) _ hp).mono ?_
  rintro e wz ⟨rfl, hwz⟩
  obtain rfl := hwz.symm
  go_wp2_with fail
  refine (takI sa si ho nx a1 a2 aN aW aM aS n1 c1 n2 c2 cN cW nM cM nS cS r1 r2 LN LW LS w.heap.size j _ b1 (h.nd.new hw1) (h.wi.new hw1) (h.se.new hw1) HRN.out HRW.out lS (by omega) h.nlN h.nlS h.fitW tS (by intro u hu v hv; exact HKI.out.1 (NdV.r u) (List.mem_map_of_mem hu) (EkV.r v) (List.mem_map_of_mem hv)) (by intro v hv; exact HKI.out.2 (EkV.r v) (List.mem_map_of_mem hv)) v HR.out).mono ?_
  rintro e w2 ⟨rfl, hn2⟩
  go_wp2
  go_ret
  exact ⟨rfl, hw1.trans hn2⟩

set_option maxHeartbeats 3200000 in
theorem specTR (pe : Int) (sa si ho nx : Int) (a1 a2 aN aW aM aS : Option Addr) (n1 c1 n2 c2 nN cN nW cW nM cM nS cS : Nat) (r1 r2 : List Ru) (LN : List NdV) (LW : List WiV) (LM : List MlV) (LS : List EkV) (w : World) (h : PAt w a1 a2 aN aW aM aS r1 r2 LN LW LM LS) (l1 : r1.length = n1) (l2 : r2.length = n2) (lN : LN.length = nN) (lW : LW.length = nW) (lM : LM.length = nM) (lS : LS.length = nS) (m1 : n1 ≤ 1048576) (m2 : n2 ≤ 1048576) (mN : nN ≤ 1048576) (mW : nW ≤ 1048576) (mM : nM ≤ 1048576) (mS : nS ≤ 1048576) (tS : totK LS ≤ 1048576) (v : Bool) (hv : (decide (pF sa si ho nx r1 r2 (LN.map NdV.r) (LW.map WiV.r) (LM.map MlV.r) (LS.map EkV.r) = 0) && (decide (P9 pe) && tkV pe.toNat (LW.map WiV.r) (LS.map EkV.r) (LN.map NdV.r))) = v) :
    Calls Tryz.prog 14 #[.agg #[.int .i64 sa, .int .i64 si, .int .i64 ho, .int .i64 nx, .slice a1 n1 c1, .slice a2 n2 c2, .slice aN nN cN, .slice aW nW cW, .slice aM nM cM, .slice aS nS cS], .int .i64 pe] w fun e w' => e = .returned (.bool v) ∧ New w w' := by
  have hw := (New.refl w).alloc (.cells #[.int .i64 sa, .int .i64 si, .int .i64 ho, .int .i64 nx, .slice a1 n1 c1, .slice a2 n2 c2, .slice aN nN cN, .slice aW nW cW, .slice aM nM cM, .slice aS nS cS] 44)
  have b0 := Blk.mk w w.heap.size 44 #[.int .i64 sa, .int .i64 si, .int .i64 ho, .int .i64 nx, .slice a1 n1 c1, .slice a2 n2 c2, .slice aN nN cN, .slice aW nW cW, .slice aM nM cM, .slice aS nS cS] rfl
  have HV : Hid ((decide (pF sa si ho nx r1 r2 (LN.map NdV.r) (LW.map WiV.r) (LM.map MlV.r) (LS.map EkV.r) = 0) && (decide (P9 pe) && tkV pe.toNat (LW.map WiV.r) (LS.map EkV.r) (LN.map NdV.r))) = v) := hv
  clear hv
  obtain ⟨f, hf⟩ : ∃ f, pF sa si ho nx r1 r2 (LN.map NdV.r) (LW.map WiV.r) (LM.map MlV.r) (LS.map EkV.r) = f := ⟨_, rfl⟩
  have cb := b0.cells
  have HPE : ∀ z, (if f ≠ 0 then f else if P9 pe then 0 else 3) = z → Calls Tryz.prog 39 #[.pointer (some ⟨w.heap.size, 0, none⟩), .int .i64 pe] (w.alloc (.cells #[.int .i64 sa, .int .i64 si, .int .i64 ho, .int .i64 nx, .slice a1 n1 c1, .slice a2 n2 c2, .slice aN nN cN, .slice aW nW cW, .slice aM nM cM, .slice aS nS cS] 44)) fun e w' => e = .returned (.int .i64 z) ∧ New (w.alloc (.cells #[.int .i64 sa, .int .i64 si, .int .i64 ho, .int .i64 nx, .slice a1 n1 c1, .slice a2 n2 c2, .slice aN nN cN, .slice aW nW cW, .slice aM nM cM, .slice aS nS cS] 44)) w' := by
    intro z hz
    have HZ : Hid ((if f ≠ 0 then f else if P9 pe then 0 else 3) = z) := hz
    clear hz cb
    go_enter Tryz.func39, Tryz.ntmps39
    go_wp2_with fail
    refine (specPaFp sa si ho nx a1 a2 aN aW aM aS n1 c1 n2 c2 nN cN nW cW nM cM nS cS r1 r2 LN LW LM LS w.heap.size _ b0 (h.new hw) l1 l2 lN lW lM lS m1 m2 mN mW mM mS f hf).mono ?_
    rintro e w1 ⟨rfl, hn1⟩
    by_cases hf0 : f = 0
    · have HZ2 : Hid ((if P9 pe then 0 else 3) = z) := by unfold Hid; have := HZ.out; rw [if_neg (not_not_intro hf0)] at this; exact this
      clear HZ
      have g : (f != 0) = false := by simp [hf0]
      have HF0 : Hid (f = 0) := hf0
      clear hf0
      by_cases hp : P9 pe
      · have HZ3 : Hid ((0 : Int) = z) := by unfold Hid; have := HZ2.out; rw [if_pos hp] at this; exact this
        go_wp2_with fail
        refine (sp9_yes pe _ hp).mono ?_
        rintro e wz ⟨rfl, hwz⟩
        obtain rfl := hwz.symm
        go_wp2
        go_ret
        exact ⟨ret_i64 HZ3.out, hn1⟩
      · have HZ3 : Hid ((3 : Int) = z) := by unfold Hid; have := HZ2.out; rw [if_neg hp] at this; exact this
        go_wp2_with fail
        refine (sp9_no pe _ hp).mono ?_
        rintro e wz ⟨rfl, hwz⟩
        obtain rfl := hwz.symm
        go_wp2
        go_ret
        exact ⟨ret_i64 HZ3.out, hn1⟩
    · have HZ2 : Hid (f = z) := by unfold Hid; have := HZ.out; rw [if_pos hf0] at this; exact this
      have g : (f != 0) = true := by simp [hf0]
      clear HZ
      go_wp2
      go_ret
      exact ⟨ret_i64 HZ2.out, hn1⟩
  go_enter Tryz.func14, Tryz.ntmps14
  by_cases hf0 : f = 0
  case neg =>
    have HR : Hid (false = v) := by unfold Hid; have := HV.out; rw [show decide (pF sa si ho nx r1 r2 (LN.map NdV.r) (LW.map WiV.r) (LM.map MlV.r) (LS.map EkV.r) = 0) = false from by rw [hf]; simpa using hf0] at this; simpa using this
    have g : (f == 0) = false := by simp [hf0]
    go_wp2_with fail
    refine (HPE f (by rw [if_pos hf0])).mono ?_
    rintro e w1 ⟨rfl, hn1⟩
    clear cb
    go_wp2
    go_ret
    exact ⟨ret_bool HR.out, hw.trans hn1⟩
  have hfz : pF sa si ho nx r1 r2 (LN.map NdV.r) (LW.map WiV.r) (LM.map MlV.r) (LS.map EkV.r) = 0 := by rw [hf]; exact hf0
  have hl := pF_two hfz
  have HKI : Hid ((∀ y ∈ LN.map NdV.r, ∀ x ∈ y.2.2.2.2.2.2.2.2, x.ki = 2 ∨ x.xs = []) ∧ ∀ x ∈ LS.map EkV.r, x.ki = 2 ∨ x.xs = []) := pF_ki hfz
  rw [List.length_map, List.length_map, lN, lW] at hl
  have HLL : Hid (nN = 2 ∧ nW = 3) := hl
  clear hl
  have HR0 : Hid ((decide (P9 pe) && tkV pe.toNat (LW.map WiV.r) (LS.map EkV.r) (LN.map NdV.r)) = v) := by unfold Hid; have := HV.out; rw [show decide (pF sa si ho nx r1 r2 (LN.map NdV.r) (LW.map WiV.r) (LM.map MlV.r) (LS.map EkV.r) = 0) = true from by simpa using hfz] at this; simpa using this
  by_cases hp : P9 pe
  case neg =>
    have HR : Hid (false = v) := by unfold Hid; have := HR0.out; simpa [hp] using this
    clear HR0 HV
    have hz3 := HPE 3 (by rw [if_neg (not_not_intro hf0), if_neg hp])
    clear HPE hf0 hf hfz
    go_wp2_with fail
    refine hz3.mono ?_
    rintro e w1 ⟨rfl, hn1⟩
    clear cb
    go_wp2
    go_ret
    exact ⟨ret_bool HR.out, hw.trans hn1⟩
  have HR1 : Hid (tkV pe.toNat (LW.map WiV.r) (LS.map EkV.r) (LN.map NdV.r) = v) := by unfold Hid; have := HR0.out; simpa [hp] using this
  have hp3 : 0 ≤ pe ∧ pe < 3 := by unfold P9 at hp; omega
  obtain ⟨j, rfl⟩ : ∃ j : Nat, pe = (j : Int) := ⟨pe.toNat, by omega⟩
  have HR : Hid (tkV j (LW.map WiV.r) (LS.map EkV.r) (LN.map NdV.r) = v) := by unfold Hid; have := HR1.out; rw [Int.toNat_natCast] at this; exact this
  have hz0 := HPE 0 (by rw [if_neg (not_not_intro hf0), if_pos hp])
  clear HV HR0 HR1 hf hf0 hfz HPE
  obtain ⟨rfl, rfl⟩ := HLL.out
  have HRN : Hid (LN.length = 2) := lN
  have HRW : Hid (LW.length = 3) := lW
  clear lN lW
  go_wp2_with fail
  refine hz0.mono ?_
  rintro e w1 ⟨rfl, hn1⟩
  have hw1 := hw.trans hn1
  have b1 := b0.new hn1
  clear cb
  go_wp2_with fail
  refine (takS sa si ho nx a1 a2 aN aW aM aS n1 c1 n2 c2 cN cW nM cM nS cS r1 r2 LN LW LS w.heap.size j _ b1 (h.nd.new hw1) (h.wi.new hw1) (h.se.new hw1) HRN.out HRW.out lS (by omega) h.nlN h.nlS h.fitW tS (by intro u hu v hv; exact HKI.out.1 (NdV.r u) (List.mem_map_of_mem hu) (EkV.r v) (List.mem_map_of_mem hv)) (by intro v hv; exact HKI.out.2 (EkV.r v) (List.mem_map_of_mem hv)) v HR.out).mono ?_
  rintro e w2 ⟨rfl, hn2⟩
  go_wp2
  go_ret
  exact ⟨rfl, hw1.trans hn2⟩

end Go.Proofs.YtkbdmcimgepakaaGreat
