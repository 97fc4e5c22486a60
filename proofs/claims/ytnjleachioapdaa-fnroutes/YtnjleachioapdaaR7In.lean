/- What is proved here: what putting one route into a list of routes that the call owns answers. -/
import Derived.Test.YtnjleachioapdaaR7Ap
import Derived.Shelf.Spec.SlicesInsert
import Derived.Lib.AppendZerosOnto
import Derived.Lib.Overlaps
import Derived.Laws.CopyRow
import Derived.Laws.Externs
import Derived.Laws.NewBlocks
namespace Go.Proofs.Ytnjleachioapdaa
open Go.RowKit Go.Sort Go.Lib
set_option linter.unusedVariables false

theorem cellsT_appd (V U : List Rv) : cellsT (V ++ U) = cellsT V ++ cellsT U := by simp [cellsT]
theorem cellsT_take7 (V : List Rv) (i : Nat) (hi : i ≤ V.length) : (cellsT V).take (i * 8) = cellsT (V.take i) := by
  have h : cellsT V = cellsT (V.take i) ++ cellsT (V.drop i) := by rw [← cellsT_appd, List.take_append_drop]
  rw [h, List.take_left' (by rw [cellsT_len, List.length_take]; congr 1; omega)]
theorem cellsT_drop7 (V : List Rv) (i : Nat) (hi : i ≤ V.length) : (cellsT V).drop (i * 8) = cellsT (V.drop i) := by
  have h : cellsT V = cellsT (V.take i) ++ cellsT (V.drop i) := by rw [← cellsT_appd, List.take_append_drop]
  rw [h, List.drop_left' (by rw [cellsT_len, List.length_take]; congr 1; omega)]
theorem cellsT_one (V : List Rv) : ∀ u ∈ cellsT V, u.oneCell' = true := by
  intro u hu
  unfold cellsT at hu
  obtain ⟨v, -, hv⟩ := List.mem_flatMap.1 hu
  unfold Rv.cs at hv
  simp only [List.mem_cons, List.not_mem_nil, or_false] at hv
  rcases hv with rfl | rfl | rfl | rfl | rfl | rfl | rfl | rfl <;> rfl

/-- 'copy' of elements of eight cells into a row. -/
theorem run_copy8 {P : Program} (w : World) (dT sT ty elem : TypeId) (g o dLen dCap : Nat) (a : Addr) (sLen sCap : Nat) (cur : Array Value) (t : TypeId) (cs : List Value)
    (hu : P.underlying dT = some (.slice elem)) (hs : (P.info? elem).map (·.size) = some 8)
    (hg : w.heap[g]? = some (.cells cur t (0, 0))) (hn : cs.length = Nat.min sLen dLen * 8)
    (hsrc : ∀ j v, cs[j]? = some v → w.cell? (a.add j) = some v) (hfit : o + cs.length ≤ cur.size) (h1 : ∀ v ∈ cs, v.oneCell' = true) :
    (Builtin.copy_ #[dT, sT] ty #[.slice (some ⟨g, o, none⟩) dLen dCap, .slice (some a) sLen sCap]).run P w =
      .ok (goInt (Nat.min sLen dLen)) (w.setRow g (cur.toList.take o ++ cs ++ cur.toList.drop (o + cs.length)).toArray) := by
  have hst := run_storeCells_at P g o t cs 0 cur w hg (by simpa using hfit) h1
  have hf := run_firstCells_some (P := P) w 8 (Nat.min sLen dLen) a sLen sCap cs hn hsrc
  cases hq : P.info? elem with
  | none => simp [hq] at hs
  | some i =>
    have hi : i.size = 8 := by simpa [hq] using hs
    simp [Builtin.copy_, run_underlying hu, Builtin.lenOf, sizeOf, typeInfo, hq, hi, hf, hst]

theorem Turn.setRow7 {S : Nat → Prop} {a w : World} (h : Turn S a w) (g : Nat) (cs : Array Value) (hg : S g) : Turn S a (w.setRow g cs) :=
  ⟨h.os, h.tape, h.output, by simpa [World.setRow] using h.size, fun k hk hs => (setRow_other w g k cs (fun e => hs (e ▸ hg))).trans (h.block k hk hs)⟩

theorem Try.szRt8 : (Try.prog.info? 31).map (·.size) = some 8 := by kernel_rfl

theorem row_list7 {X A B C : List Value} {n : Nat} (h : X.take n = A) (hn : n ≤ X.length) : A.length = n := by
  rw [← h, List.length_take]; omega

set_option maxHeartbeats 6400000 in
set_option maxRecDepth 100000 in
/-- There is room: in place. -/
theorem ins_room (b n c i L : Nat) (V : List Rv) (v : Rv) (cur : Array Value) (w : World) (hb : w.heap[b]? = some (.cells cur 31 (0, 0))) (hcur : cur.size = c * 8) (hV : cur.toList.take (n * 8) = cellsT V) (hn : V.length = n) (hi : i < n) (hroom : n + 1 ≤ c) (hc : c ≤ maxLen)
    (bL : Blk w L 31 v.cs.toArray) (hLb : L ≠ b) :
    Calls Try.prog 22 #[.slice (some ⟨b, 0, none⟩) n c, .int .i64 i, .slice (some ⟨L, 0, none⟩) 1 1] w fun e w' => e = .returned (.slice (some ⟨b, 0, none⟩) (n + 1) c) ∧ OwRow w' b (n + 1) c (V.take i ++ [v] ++ V.drop i) ∧ Turn (fun k => k = b) w w' := by
  have hc63 : c ≤ 9223372036854775807 := by unfold maxLen at hc; omega
  have hlV : (cellsT V).length = n * 8 := by rw [cellsT_len, hn]
  have hcl : ∀ j, w.cell? ⟨b, j, none⟩ = cur[j]? := fun j => cell_of_row w b j cur _ (0, 0) hb
  have hXc : ∀ j, j < n * 8 → cur[j]? = (cellsT V)[j]? := by
    intro j hj
    rw [← hV, List.getElem?_take_of_lt hj]
    simp
  have hsa : w.shape? L = some (31, 8) := by
    have : w.heap[L]? = some (.cells v.cs.toArray 31 (0, 0)) := bL
    simp [World.shape?, this, Rv.cs]
  have hsb : w.shape? b = some (31, c * 8) := by simp [World.shape?, hb, hcur]
  have hov : ∀ lb cb, (callFunc 40 #[.slice (some ⟨L, 0, none⟩) 1 1, .slice (some ⟨b, (i + 1) * 8, none⟩) lb cb]).run Try.prog w = .ok (.value (.bool false)) w := fun lb cb => by
    rw [run_callFunc_extern Try.func40 (by kernel_rfl) (by kernel_rfl) (by kernel_rfl) (e := Extern.SlicesOverlaps.overlaps #[24, 24] #[4]) (by kernel_rfl),
      Lib.run_overlaps_apart w 24 4 31 Try.underlying24 8 (fun w => by kernel_rfl) ⟨L, 0, none⟩ ⟨b, (i + 1) * 8, none⟩ 1 1 lb cb hLb 31 31 8 (c * 8) hsa hsb (by omega) (bL.frees 0) (bL.frees 8)]
    rfl
  have hlD : ((cellsT V).drop (i * 8)).length = (n - i) * 8 := by rw [List.length_drop, hlV]; omega
  obtain ⟨D1, hD1⟩ : ∃ D1 : List Value, D1 = cur.toList.take ((i + 1) * 8) ++ (cellsT V).drop (i * 8) ++ cur.toList.drop ((i + 1) * 8 + ((cellsT V).drop (i * 8)).length) := ⟨_, rfl⟩
  have hlD1 : D1.length = c * 8 := by
    rw [hD1]
    simp only [List.length_append, List.length_take, List.length_drop, hlV, Array.length_toList, hcur]
    omega
  obtain ⟨D2, hD2⟩ : ∃ D2 : List Value, D2 = D1.take (i * 8) ++ v.cs ++ D1.drop (i * 8 + v.cs.length) := ⟨_, rfl⟩
  have hcp1 : ∀ ty dc sc, (Builtin.copy_ #[24, 24] ty #[.slice (some ⟨b, (i + 1) * 8, none⟩) (n - i) dc, .slice (some ⟨b, i * 8, none⟩) (n + 1 - i) sc]).run Try.prog w.drew = .ok (goInt (Nat.min (n + 1 - i) (n - i))) (w.drew.setRow b D1.toArray) := fun ty dc sc => by
    have h := run_copy8 (P := Try.prog) w.drew 24 24 ty 31 b ((i + 1) * 8) (n - i) dc ⟨b, i * 8, none⟩ (n + 1 - i) sc cur 31 ((cellsT V).drop (i * 8)) Try.underlying24 Try.szRt8 hb
      (by rw [hlD]; congr 1; simp only [Nat.min_def]; split <;> omega)
      (fun j u hj => by
        rw [Addr.add_lit]
        rw [List.getElem?_drop] at hj
        have hjl : i * 8 + j < n * 8 := by have := (List.getElem?_eq_some_iff.1 hj).1; omega
        exact ((hcl (i * 8 + j)).trans (hXc _ hjl)).trans hj)
      (by rw [hlD, hcur]; omega) (fun u hu => cellsT_one V u (List.mem_of_mem_drop hu))
    rw [← hD1] at h
    exact h
  have hcp2 : ∀ W : World, W.heap[b]? = some (.cells D1.toArray 31 (0, 0)) → (∀ j, W.cell? ⟨L, j, none⟩ = v.cs[j]?) → ∀ ty dc, (Builtin.copy_ #[24, 24] ty #[.slice (some ⟨b, i * 8, none⟩) (n + 1 - i) dc, .slice (some ⟨L, 0, none⟩) 1 1]).run Try.prog W = .ok (goInt (Nat.min 1 (n + 1 - i))) (W.setRow b D2.toArray) := fun W hW hc ty dc => by
    have h := run_copy8 (P := Try.prog) W 24 24 ty 31 b (i * 8) (n + 1 - i) dc ⟨L, 0, none⟩ 1 1 D1.toArray 31 v.cs Try.underlying24 Try.szRt8 hW
      (by rw [show v.cs.length = 8 from rfl]; simp only [Nat.min_def]; split <;> omega)
      (fun j u hj => by rw [Addr.add_lit, Nat.zero_add, hc j]; exact hj)
      (by rw [List.size_toArray, hlD1]; simp [Rv.cs]; omega) (by intro u hu; exact cellsT_one [v] u (by simpa [cellsT] using hu))
    simp only [← hD2] at h
    exact h
  have mixed : Try.prog.follows Departure.mixedOrders = true := by kernel_rfl
  have hz2 : ¬ ((i : Int) = (n : Int)) := by omega
  have hw1 : IntKind.i64.wrap ((i : Int) + 1) = (i : Int) + 1 := by rw [IntKind.wrap_i64]; omega
  have hb1 : (0 : Int) ≤ (i : Int) + 1 := by omega
  have hin : i ≤ n := by omega
  have htn : ((i : Int) + 1).toNat = i + 1 := by omega
  have hb2 : ¬ (c = i + 1) := by omega
  have hb3 : (i : Int) ≤ (n : Int) + 1 := by omega
  have hb4 : ¬ (c = i) := by omega
  have HF : Hid (D2.take ((n + 1) * 8) = cellsT (V.take i ++ [v] ++ V.drop i) ∧ D2.length = c * 8) := by
    have e0 : D1.take (i * 8) = cellsT (V.take i) := by
      rw [hD1, List.append_assoc, List.take_append_of_le_length (by rw [List.length_take, Array.length_toList, hcur]; omega), List.take_take, Nat.min_eq_left (by omega), ← cellsT_take7 V i (by omega), ← hV, List.take_take, Nat.min_eq_left (by omega)]
    have e1 : D1.drop (i * 8 + v.cs.length) = cellsT (V.drop i) ++ cur.toList.drop ((i + 1) * 8 + ((cellsT V).drop (i * 8)).length) := by
      rw [hD1, List.append_assoc, List.drop_left' (by rw [List.length_take, Array.length_toList, hcur]; simp [Rv.cs]; omega), cellsT_drop7 V i (by omega)]
    have e2 : D2 = cellsT (V.take i ++ [v] ++ V.drop i) ++ cur.toList.drop ((i + 1) * 8 + ((cellsT V).drop (i * 8)).length) := by
      rw [hD2, e0, e1, cellsT_appd, cellsT_snoc, List.append_assoc, List.append_assoc, List.append_assoc]
    have e3 : (cellsT (V.take i ++ [v] ++ V.drop i)).length = (n + 1) * 8 := by
      rw [cellsT_len]
      simp
      omega
    refine ⟨by rw [e2, List.take_left' e3], ?_⟩
    rw [e2, List.length_append, e3, List.length_drop, hlD, Array.length_toList, hcur]
    omega
  have hbw : b < w.heap.size := (Array.getElem?_eq_some_iff.1 hb).1
  have hD1h : (w.drew.setRow b D1.toArray).heap[b]? = some (.cells D1.toArray 31 (0, 0)) := setRow_heap w.drew b cur D1.toArray 31 (0, 0) hb
  have hL1 : ∀ j, (w.drew.setRow b D1.toArray).cell? ⟨L, j, none⟩ = v.cs[j]? := fun j => by
    have e : (w.drew.setRow b D1.toArray).heap[L]? = w.heap[L]? := setRow_other w.drew b L D1.toArray hLb
    have e' : Blk (w.drew.setRow b D1.toArray) L 31 v.cs.toArray := e.trans bL
    rw [e'.cells j]
    simp
  clear hXc hcl hlD hlD1 hD1 hD2 hV hlV hsa hsb
  go_enter Try.func22, Try.ntmps22
  go_wp2_with (simp only [hov])
  go_region_law_o (refine step_copy_runI rfl _ _ 24 24 rfl _ _ (by simp [Act.eval, Act.put]) (by simp [Act.eval, Act.put]) (hcp1 _ _ _) ?_)
  have hcp2f := fun ty dc => hcp2 _ hD1h hL1 ty dc
  go_wp2_with (simp only [hcp2f])
  go_ret
  refine ⟨rfl, ?_, ?_⟩
  · have hfin : ((w.drew.setRow b D1.toArray).setRow b D2.toArray).heap[b]? = some (.cells D2.toArray 31 (0, 0)) := setRow_heap _ b D1.toArray D2.toArray 31 (0, 0) hD1h
    refine ⟨by rw [cellsT_len]; simp; omega, .inr ⟨b, c, D2.toArray, rfl, Nat.zero_le _, hfin, hroom, hc, by rw [List.size_toArray, HF.out.2], ?_⟩⟩
    rw [List.toList_toArray]
    exact HF.out.1
  · exact Turn.setRow7 (S := fun k => k = b) (Turn.setRow7 (S := fun k => k = b) (New.refl w).drew.turn b _ rfl) b _ rfl

set_option maxHeartbeats 6400000 in
set_option maxRecDepth 100000 in
/-- There is no room: a new row. -/
theorem ins_grow (b n c i L : Nat) (V : List Rv) (v : Rv) (cur : Array Value) (w : World) (hb : w.heap[b]? = some (.cells cur 31 (0, 0))) (hcur : cur.size = c * 8) (hV : cur.toList.take (n * 8) = cellsT V) (hn : V.length = n) (hi : i < n) (hnc : n ≤ c) (hroom : c < n + 1) (hbig : n ≤ 1048576)
    (bL : Blk w L 31 v.cs.toArray) (hLb : L ≠ b) :
    Calls Try.prog 22 #[.slice (some ⟨b, 0, none⟩) n c, .int .i64 i, .slice (some ⟨L, 0, none⟩) 1 1] w fun e w' => ∃ c', e = .returned (.slice (some ⟨w.heap.size, 0, none⟩) (n + 1) c') ∧ OwRow w' w.heap.size (n + 1) c' (V.take i ++ [v] ++ V.drop i) ∧ New w w' := by
  obtain ⟨i0, hi0, hz0, hzs, hzb⟩ := info_parts Try.infoRt
  have hlV : (cellsT V).length = n * 8 := by rw [cellsT_len, hn]
  have hcl : ∀ j, w.cell? ⟨b, j, none⟩ = cur[j]? := fun j => cell_of_row w b j cur _ (0, 0) hb
  have hXc : ∀ j, j < n * 8 → cur[j]? = (cellsT V)[j]? := by
    intro j hj
    rw [← hV, List.getElem?_take_of_lt hj]
    simp
  have hbw : b < w.heap.size := (Array.getElem?_eq_some_iff.1 hb).1
  have hLw : L < w.heap.size := bL.lt
  have hlD : ((cellsT V).drop (i * 8)).length = (n - i) * 8 := by rw [List.length_drop, hlV]; omega
  have hik : i + (n + 1 - i) = n + 1 := by omega
  have hkk : (n : Int) + 1 - (i : Int) = ((n + 1 - i : Nat) : Int) := by omega
  have hold : (Builtin.firstCells i0.size i (.slice (some ⟨b, 0, none⟩) i c)).run Try.prog w.drew = .ok ((cellsT V).take (i * 8)).toArray w.drew := by
    rw [hzs]
    exact run_firstCells_some w.drew 8 i ⟨b, 0, none⟩ i c ((cellsT V).take (i * 8)) (by rw [List.length_take, hlV]; omega) (fun j u hj => by
      rw [Addr.add_lit, Nat.zero_add]
      rw [List.getElem?_take] at hj
      split at hj
      · exact ((hcl j).trans (hXc j (by omega))).trans hj
      · cases hj)
  obtain ⟨G, hG⟩ : ∃ G, G = grownCap w (n + 1) c 31 := ⟨_, rfl⟩
  obtain ⟨ROW, hROW⟩ : ∃ ROW : Array Value, ROW = ((cellsT V).take (i * 8)).toArray ++ Builtin.zeroCells (Value.agg #[.int .i64 0, .int .i64 0, .int .i64 0, .int .i64 0, .slice none 0 0, .int .i64 0, .int .i64 0, .int .i64 0]).cells (n + 1 - i) ++ Builtin.zeroCells (Value.agg #[.int .i64 0, .int .i64 0, .int .i64 0, .int .i64 0, .slice none 0 0, .int .i64 0, .int .i64 0, .int .i64 0]).cells (G - (n + 1)) := ⟨_, rfl⟩
  have hrz : ∀ ty, (Builtin.append_ #[24, 3] ty #[.slice (some ⟨b, 0, none⟩) i c, .int .i64 ((n : Int) + 1 - (i : Int))]).run Try.prog w = .ok (.slice (some ⟨w.heap.size, 0, none⟩) (n + 1) G) (w.drew.alloc (.cells ROW 31)) := fun ty => by
    have h := Lib.run_append_grow_zeros w 24 3 ty 31 i0 _ .i64 .i64 Try.underlying24 Try.underlying3 hi0 hz0 (some ⟨b, 0, none⟩) i c ((cellsT V).take (i * 8)) hold (n + 1 - i) (by omega) (by omega) (by omega) (by omega) (by rw [hzb]; omega) (by rw [hzb, hik]; exact growslice_fits hroom (by omega))
    rw [hik] at h
    rw [hkk, hROW, hG]
    exact h
  have hGn : n + 1 ≤ G := by rw [hG]; exact grownCap_ge w _ _ _
  have hGm : G ≤ maxLen := by rw [hG]; exact grownCap_le_maxLen w (n + 1) c 31 (by unfold maxLen; omega)
  have hG63 : G ≤ 9223372036854775807 := by unfold maxLen at hGm; omega
  have hRs : ROW.size = G * 8 := by
    rw [hROW]
    simp only [Array.size_append, List.size_toArray, List.length_take, hlV, size_zeroCells]
    simp [Value.cells]
    omega
  have hRt : ROW.toList.take (i * 8) = cellsT (V.take i) := by
    rw [hROW, Array.toList_append, Array.toList_append, List.append_assoc, List.take_append_of_le_length (by simp [hlV]; omega), List.toList_toArray, List.take_take, Nat.min_self, cellsT_take7 V i (by omega)]
  obtain ⟨D1, hD1⟩ : ∃ D1 : List Value, D1 = ROW.toList.take (i * 8) ++ v.cs ++ ROW.toList.drop (i * 8 + v.cs.length) := ⟨_, rfl⟩
  have hlD1 : D1.length = G * 8 := by
    rw [hD1]
    simp only [List.length_append, List.length_take, List.length_drop, Array.length_toList, hRs]
    simp [Rv.cs]
    omega
  obtain ⟨D2, hD2⟩ : ∃ D2 : List Value, D2 = D1.take ((i + 1) * 8) ++ (cellsT V).drop (i * 8) ++ D1.drop ((i + 1) * 8 + ((cellsT V).drop (i * 8)).length) := ⟨_, rfl⟩
  have HF : Hid (D2.take ((n + 1) * 8) = cellsT (V.take i ++ [v] ++ V.drop i) ∧ D2.length = G * 8) := by
    have e0 : D1.take ((i + 1) * 8) = cellsT (V.take i ++ [v]) := by
      rw [hD1, hRt, cellsT_snoc, List.take_left' (by rw [List.length_append, cellsT_len, List.length_take]; simp [Rv.cs]; omega)]
    have e2 : D2 = cellsT (V.take i ++ [v] ++ V.drop i) ++ D1.drop ((i + 1) * 8 + ((cellsT V).drop (i * 8)).length) := by
      rw [hD2, e0, cellsT_drop7 V i (by omega), cellsT_appd (V.take i ++ [v]) (V.drop i)]
    have e3 : (cellsT (V.take i ++ [v] ++ V.drop i)).length = (n + 1) * 8 := by
      rw [cellsT_len]
      simp
      omega
    refine ⟨by rw [e2, List.take_left' e3], ?_⟩
    rw [e2, List.length_append, e3, List.length_drop, hlD, hlD1]
    omega
  have hcpA : ∀ W : World, W.heap[w.heap.size]? = some (.cells ROW 31 (0, 0)) → (∀ j, W.cell? ⟨L, j, none⟩ = v.cs[j]?) → ∀ ty dc, (Builtin.copy_ #[24, 24] ty #[.slice (some ⟨w.heap.size, i * 8, none⟩) (n + 1 - i) dc, .slice (some ⟨L, 0, none⟩) 1 1]).run Try.prog W = .ok (goInt (Nat.min 1 (n + 1 - i))) (W.setRow w.heap.size D1.toArray) := fun W hW hc ty dc => by
    have h := run_copy8 (P := Try.prog) W 24 24 ty 31 w.heap.size (i * 8) (n + 1 - i) dc ⟨L, 0, none⟩ 1 1 ROW 31 v.cs Try.underlying24 Try.szRt8 hW
      (by rw [show v.cs.length = 8 from rfl]; simp only [Nat.min_def]; split <;> omega)
      (fun j u hj => by rw [Addr.add_lit, Nat.zero_add, hc j]; exact hj)
      (by rw [hRs]; simp [Rv.cs]; omega) (by intro u hu; exact cellsT_one [v] u (by simpa [cellsT] using hu))
    simp only [← hD1] at h
    exact h
  have hcpB : ∀ W : World, W.heap[w.heap.size]? = some (.cells D1.toArray 31 (0, 0)) → (∀ j, W.cell? ⟨b, j, none⟩ = cur[j]?) → ∀ ty dc sc, (Builtin.copy_ #[24, 24] ty #[.slice (some ⟨w.heap.size, (i + 1) * 8, none⟩) (n - i) dc, .slice (some ⟨b, i * 8, none⟩) (n - i) sc]).run Try.prog W = .ok (goInt (Nat.min (n - i) (n - i))) (W.setRow w.heap.size D2.toArray) := fun W hW hc ty dc sc => by
    have h := run_copy8 (P := Try.prog) W 24 24 ty 31 w.heap.size ((i + 1) * 8) (n - i) dc ⟨b, i * 8, none⟩ (n - i) sc D1.toArray 31 ((cellsT V).drop (i * 8)) Try.underlying24 Try.szRt8 hW
      (by rw [hlD]; congr 1; simp only [Nat.min_def]; split <;> omega)
      (fun j u hj => by
        rw [Addr.add_lit]
        rw [List.getElem?_drop] at hj
        have hjl : i * 8 + j < n * 8 := by have := (List.getElem?_eq_some_iff.1 hj).1; omega
        exact ((hc (i * 8 + j)).trans (hXc _ hjl)).trans hj)
      (by rw [hlD, List.size_toArray, hlD1]; omega) (fun u hu => cellsT_one V u (List.mem_of_mem_drop hu))
    simp only [← hD2] at h
    exact h
  have mixed : Try.prog.follows Departure.mixedOrders = true := by kernel_rfl
  have hz2 : ¬ ((i : Int) = (n : Int)) := by omega
  have hz3 : (c : Int) < (n : Int) + 1 := by omega
  have hw1 : IntKind.i64.wrap ((i : Int) + 1) = (i : Int) + 1 := by rw [IntKind.wrap_i64]; omega
  have hb1 : (0 : Int) ≤ (i : Int) + 1 := by omega
  have hin : i ≤ n := by omega
  have htn : ((i : Int) + 1).toNat = i + 1 := by omega
  have hb3 : (i : Int) ≤ (n : Int) := by omega
  have hGi : ¬ (G = i) := by omega
  have hGim : ¬ (G = i + 1) := by omega
  have hci : ¬ (c = i) := by omega
  obtain ⟨w1, hw1e⟩ : ∃ w1, w1 = w.drew.alloc (.cells ROW 31) := ⟨_, rfl⟩
  have n1 : New w w1 := by rw [hw1e]; exact (New.refl w).drew.alloc _
  have h1r : w1.heap[w.heap.size]? = some (.cells ROW 31 (0, 0)) := by rw [hw1e]; exact heap_alloc_new w.drew _
  have h1L : ∀ j, w1.cell? ⟨L, j, none⟩ = v.cs[j]? := fun j => by rw [(bL.new n1).cells j]; simp
  have h1b : ∀ j, w1.cell? ⟨b, j, none⟩ = cur[j]? := fun j => by rw [((show Blk w b 31 cur from hb).new n1).cells j]
  rw [← hw1e] at hrz
  have h2r : (w1.setRow w.heap.size D1.toArray).heap[w.heap.size]? = some (.cells D1.toArray 31 (0, 0)) := setRow_heap w1 w.heap.size ROW D1.toArray 31 (0, 0) h1r
  have h2b : ∀ j, (w1.setRow w.heap.size D1.toArray).cell? ⟨b, j, none⟩ = cur[j]? := fun j => by
    have e : (w1.setRow w.heap.size D1.toArray).heap[b]? = w1.heap[b]? := setRow_other w1 w.heap.size b D1.toArray (by omega)
    rw [World.cell?_of_block e]
    exact h1b j
  have hcpAf := fun ty dc => hcpA w1 h1r h1L ty dc
  have hcpBf := fun ty dc sc => hcpB (w1.setRow w.heap.size D1.toArray).drew h2r h2b ty dc sc
  clear hkk hik hold hROW hG hXc hcl hV hlV hlD hD1 hD2 hRs hRt hlD1 hcpA hcpB hw1e
  go_enter Try.func22, Try.ntmps22
  go_wp2_with (first | (at_builtin; refine Lib.wpList_append_run _ rfl _ _ _ _ rfl _ _ rfl rfl _ _ (hrz _) ?_) | simp only [hcpAf])
  go_region_law_o (refine step_copy_runI rfl _ _ 24 24 rfl (.slice (some ⟨w.heap.size, (i + 1) * 8, none⟩) (n - i) (G - (i + 1))) (.slice (some ⟨b, i * 8, none⟩) (n - i) (c - i)) (by simp [Act.eval, Act.put]) (by simp [Act.eval, Act.put]) (hcpBf _ _ _) ?_)
  go_wp2
  go_ret
  refine ⟨G, rfl, ?_, ?_⟩
  · have hfin : ((w1.setRow w.heap.size D1.toArray).drew.setRow w.heap.size D2.toArray).heap[w.heap.size]? = some (.cells D2.toArray 31 (0, 0)) := setRow_heap _ w.heap.size D1.toArray D2.toArray 31 (0, 0) h2r
    refine ⟨by rw [cellsT_len]; simp; omega, .inr ⟨w.heap.size, G, D2.toArray, rfl, Nat.zero_le _, hfin, hGn, hGm, by rw [List.size_toArray, HF.out.2], ?_⟩⟩
    rw [List.toList_toArray]
    exact HF.out.1
  · have t1 : Turn (fun k => k = w.heap.size) w1 ((w1.setRow w.heap.size D1.toArray).drew.setRow w.heap.size D2.toArray) := by
      have a1 := Turn.setRow7 (S := fun k => k = w.heap.size) (Turn.refl _ w1) w.heap.size D1.toArray rfl
      have a2 : Turn (fun k => k = w.heap.size) w1 (w1.setRow w.heap.size D1.toArray).drew := ⟨a1.os, a1.tape, a1.output, a1.size, a1.block⟩
      exact Turn.setRow7 (S := fun k => k = w.heap.size) a2 w.heap.size D2.toArray rfl
    exact n1.before t1 (fun i hi e => by omega)

end Go.Proofs.Ytnjleachioapdaa
