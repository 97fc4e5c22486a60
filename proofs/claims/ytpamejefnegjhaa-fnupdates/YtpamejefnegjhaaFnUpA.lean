/- What is proved here: what is packed without a fault reads as it was. What is proved here: what the laws' asking for too many bytes answers. What is proved here: how structs that lie in blocks are loaded and stored, whole, in a region that draws its order. No condition. What is proved here: for every list of bytes the law on updates returns true, and the list reads as it did. No condition. -/
import Derived.Test.YtpamejefnegjhaaPuAllU
import Derived.Test.YtpamejefnegjhaaBytes
import Derived.Test.YtpamejefnegjhaaRows
import Derived.Deep.RegionHeld3
import Derived.Laws.Tables
import Derived.Laws.Rows
import Derived.Test.YtpamejefnegjhaaOpen
import Derived.Test.YtpamejefnegjhaaDrAllU
import Derived.Test.YtpamejefnegjhaaSdAll
import Derived.Deep.CutRange
namespace Go.Proofs.Ytpamejefnegjhaa
open Go.RowKit Go.Sort
set_option linter.unusedVariables false

theorem nsB_get : ∀ (xs : List Int) (i : Nat) (x : Int), xs[i]? = some x → (nsB xs)[2 * i]? = some (x / 256) ∧ (nsB xs)[2 * i + 1]? = some (x % 256)
  | [], i, x, h => by simp at h
  | q :: r, 0, x, h => by simp at h; subst h; simp [nsB]
  | q :: r, i + 1, x, h => by
    simp at h
    have := nsB_get r i x h
    have e : nsB (q :: r) = q / 256 :: q % 256 :: nsB r := by simp [nsB]
    rw [e, show 2 * (i + 1) = 2 * i + 1 + 1 by omega, show 2 * i + 1 + 1 + 1 = (2 * i + 1) + 1 + 1 by omega]
    simpa using this
theorem nsR_nsB (xs : List Int) (h : Int) (r : List Int) : nsR (h :: (nsB xs ++ r)) xs.length = xs := by
  apply List.ext_getElem?
  intro i
  unfold nsR
  rw [List.getElem?_map]
  by_cases hi : i < xs.length
  · have hx := List.getElem?_eq_getElem hi
    obtain ⟨g0, g1⟩ := nsB_get xs i _ hx
    have hl := nsB_len xs
    have e0 : (h :: (nsB xs ++ r))[1 + 2 * i]? = some (xs[i] / 256) := by
      rw [show 1 + 2 * i = 2 * i + 1 by omega, List.getElem?_cons_succ, List.getElem?_append_left (by omega)]
      exact g0
    have e1 : (h :: (nsB xs ++ r))[1 + 2 * i + 1]? = some (xs[i] % 256) := by
      rw [show 1 + 2 * i + 1 = (2 * i + 1) + 1 by omega, List.getElem?_cons_succ, List.getElem?_append_left (by omega)]
      exact g1
    rw [List.getElem?_range hi, hx]
    show some (numAt _ (1 + 2 * i) 2) = _
    rw [numAt_two e0 e1]
    congr 1
    omega
  · rw [List.getElem?_eq_none (by simpa using hi), List.getElem?_eq_none (by omega)]
    rfl
theorem at_get (o : Int) (xs : List Int) (nx md lc : Int) (r : List Int) (j : Nat) (x : Int) (h : [o, nx / 256, nx % 256, md / 256, md % 256, lc / 256, lc % 256][j]? = some x) : (atB o xs nx md lc ++ r)[1 + 2 * xs.length + j]? = some x := by
  have hl := nsB_len xs
  have e : atB o xs nx md lc ++ r = ((xs.length : Int) :: nsB xs) ++ ([o, nx / 256, nx % 256, md / 256, md % 256, lc / 256, lc % 256] ++ r) := by simp [atB]
  have hj : j < [o, nx / 256, nx % 256, md / 256, md % 256, lc / 256, lc % 256].length := (List.getElem?_eq_some_iff.1 h).1
  rw [e, List.getElem?_append_right (by simp; omega), List.getElem?_append_left (by simp at hj ⊢; omega)]
  rw [show 1 + 2 * xs.length + j - ((xs.length : Int) :: nsB xs).length = j by simp; omega]
  exact h
/-- What is packed without a fault reads as it was. -/
theorem pu_upB (gs : List (Int × Int)) (has : Bool) (o : Int) (xs : List Int) (nx md lc : Int) (rs : List (Int × Int)) (h : uf gs has o xs nx md lc rs = 0) : pu (upB gs has o xs nx md lc rs) = ⟨0, false, gs, has, o, xs, nx, md, lc, rs⟩ := by
  obtain ⟨h8, h8r, hlg, hlr, hyes, hno⟩ := uf_ok h
  have hgok := (lf_ok hlg).2
  have hrok := (lf_ok hlr).2
  have h0 : (upB gs has o xs nx md lc rs)[0]? = some (gs.length : Int) := by unfold upB; simp
  have hpl := pxB_len gs
  have hg : gnL (upB gs has o xs nx md lc rs) gs.length = gs := by
    unfold gnL upB
    rw [List.append_assoc, List.singleton_append, List.drop_succ_cons, List.drop_zero, List.take_append_of_le_length (by omega), List.take_of_length_le (by omega)]
    exact rdP_pxB gs
  have hd : (upB gs has o xs nx md lc rs).drop (1 + 3 * gs.length) = if has = true then atB o xs nx md lc ++ pxB rs else [] := by
    unfold upB
    rw [List.append_assoc, List.singleton_append, show 1 + 3 * gs.length = (3 * gs.length) + 1 by omega, List.drop_succ_cons, List.drop_append_of_le_length (by omega), List.drop_of_length_le (by omega)]
    rfl
  have hlen := upB_len (gs := gs) (rs := rs) (has := has) (o := o) (nx := nx) (md := md) (lc := lc) (xs := xs)
  rw [pu_some h0, if_neg (by omega), hg, if_neg (by have := (ixF_neg gs).2 hgok; omega), hd]
  cases has with
  | false =>
    obtain ⟨hr0, ho0, hx0, rfl, rfl, rfl⟩ := hno rfl
    obtain rfl : rs = [] := List.eq_nil_of_length_eq_zero hr0
    obtain rfl : xs = [] := List.eq_nil_of_length_eq_zero hx0
    subst ho0
    simp only [Bool.false_eq_true, if_false]
    show (if ufU (puU gs) = 0 then puU gs else puS (gs.take 8)) = _
    rw [if_pos (show ufU (puU gs) = 0 from h)]
    rfl
  | true =>
    obtain ⟨hrp, haf⟩ := hyes rfl
    simp only [if_true]
    have hal := atB_len o xs nx md lc
    have hrl := pxB_len rs
    have h1 : (atB o xs nx md lc ++ pxB rs)[0]? = some (xs.length : Int) := by unfold atB; simp
    have hll : (atB o xs nx md lc ++ pxB rs).length = 8 + 2 * xs.length + rs.length * 3 := by rw [List.length_append, hal, hrl]; omega
    have g := at_get o xs nx md lc (pxB rs)
    have eo : (atB o xs nx md lc ++ pxB rs)[1 + 2 * xs.length]? = some o := g 0 o rfl
    have n1 : numAt (atB o xs nx md lc ++ pxB rs) (2 + 2 * xs.length) 2 = nx := by
      rw [numAt_two (by rw [show 2 + 2 * xs.length = 1 + 2 * xs.length + 1 by omega]; exact g 1 _ rfl) (by rw [show 2 + 2 * xs.length + 1 = 1 + 2 * xs.length + 2 by omega]; exact g 2 _ rfl)]; omega
    have n2 : numAt (atB o xs nx md lc ++ pxB rs) (4 + 2 * xs.length) 2 = md := by
      rw [numAt_two (by rw [show 4 + 2 * xs.length = 1 + 2 * xs.length + 3 by omega]; exact g 3 _ rfl) (by rw [show 4 + 2 * xs.length + 1 = 1 + 2 * xs.length + 4 by omega]; exact g 4 _ rfl)]; omega
    have n3 : numAt (atB o xs nx md lc ++ pxB rs) (6 + 2 * xs.length) 2 = lc := by
      rw [numAt_two (by rw [show 6 + 2 * xs.length = 1 + 2 * xs.length + 5 by omega]; exact g 5 _ rfl) (by rw [show 6 + 2 * xs.length + 1 = 1 + 2 * xs.length + 6 by omega]; exact g 6 _ rfl)]; omega
    have en : nsR (atB o xs nx md lc ++ pxB rs) xs.length = xs := by
      have e : atB o xs nx md lc ++ pxB rs = (xs.length : Int) :: (nsB xs ++ ([o] ++ [nx / 256, nx % 256, md / 256, md % 256, lc / 256, lc % 256] ++ pxB rs)) := by simp [atB]
      rw [e]
      exact nsR_nsB xs _ _
    have er : rdP ((atB o xs nx md lc ++ pxB rs).drop (8 + 2 * xs.length)) = rs := by
      rw [List.drop_append_of_le_length (by omega), List.drop_of_length_le (by omega), List.nil_append]
      exact rdP_pxB rs
    have hA : puA gs xs.length (atB o xs nx md lc ++ pxB rs) = ⟨0, false, gs, true, o, xs, nx, md, lc, rs⟩ := by
      unfold puA
      rw [eo, n1, n2, n3, en, er]
      rfl
    rw [rdU_some h1, if_neg (by rw [hll]; omega), hA, if_pos (show ufU ⟨0, false, gs, true, o, xs, nx, md, lc, rs⟩ = 0 from h)]

end Go.Proofs.Ytpamejefnegjhaa

namespace Go.Proofs.Ytpamejefnegjhaa
open Go.RowKit

theorem lbig_no (a : Option Addr) (n c : Nat) (w : World) (h : ¬ 1048576 < n) : Calls Try.prog 4 #[.slice a n c] w fun e w' => e = .returned (.bool false) ∧ w' = w := by
  have hd : decide ((1048576 : Int) < (n : Int)) = false := by simp; omega
  go_enter Try.func4, Try.ntmps4
  go_wp2
  go_ret
  exact ⟨rfl, rfl⟩

theorem lbig_yes (a : Option Addr) (n c : Nat) (w : World) (h : 1048576 < n) : Calls Try.prog 4 #[.slice a n c] w fun e w' => e = .returned (.bool true) ∧ w' = w := by
  have hd : decide ((1048576 : Int) < (n : Int)) = true := by simp; omega
  go_enter Try.func4, Try.ntmps4
  go_wp2
  go_ret
  exact ⟨rfl, rfl⟩

end Go.Proofs.Ytpamejefnegjhaa

namespace Go.Proofs.Ytpamejefnegjhaa
open Go.RowKit

theorem Turn.rowW {a w : World} {B : Nat} {S : Nat → Prop} (h : Turn S a w) (hS : S B) (cs : Array Value) : Turn S a (w.setRow B cs) :=
  ⟨h.os, h.tape, h.output, by simpa [World.setRow] using h.size, fun k hk hs => (setRow_other w B k cs (fun e => hs (e ▸ hS))).trans (h.block k hk hs)⟩
theorem Blk.rowW {w : World} {B : Nat} {t : TypeId} {old : Array Value} (h : Blk w B t old) (cs : Array Value) : Blk (w.setRow B cs) B t cs := setRow_heap w B old cs t (0, 0) h
theorem Blk.rowO {w : World} {B C : Nat} {t : TypeId} {cs : Array Value} (h : Blk w C t cs) (hne : ¬ C = B) (ds : Array Value) : Blk (w.setRow B ds) C t cs := (setRow_other w B C ds hne).trans h
theorem Turn.drewW {S : Nat → Prop} {a w : World} (h : Turn S a w) : Turn S a w.drew := ⟨h.os, h.tape, h.output, h.size, h.block⟩

/-- A struct that lies in a block is loaded, whole, wherever the block is known. -/
theorem yields_load_blk {P : Program} {ops : Array Oper} {S : World → Prop} {op : Oper} {a : Act} (hw : Region.wanted op (yielded ops a.tmps) = true) (ty : TypeId) (x : Operand) (ho : op.op = .load ty x)
    (B : Nat) (hx : a.eval x = .pointer (some ⟨B, 0, none⟩)) (cs : Array Value) (d : TypeDesc) (hS : ∀ w, S w → Blk w B ty cs)
    (hu : P.underlying ty = some d) (hd : (match d with | .struct _ | .array _ _ => true | _ => false) = true) (hi : (P.info? ty).map (·.size) = some cs.size) : YieldsIf P ops S op (.agg cs) a :=
  .inl ⟨hw, fun w hw' => by
    unfold execOp
    simp only [ho, hx, Instr.loadAt, Instr.sureAddr, Sem.run_bind, Sem.run_pure, Result.andThen_ok, run_loadVar_row w B ty ty cs (0, 0) d (hS w hw') hu hd hi]⟩

/-- What is walked under more is walked under less. -/
theorem wpAnyH_more {P : Program} {md : Region.Mode} {ops : Array Oper} {Q : Exit → Act → World → Prop} {S S' : World → Prop} (hs : ∀ w, S' w → S w) : ∀ (fuel : Nat) (listed : Array Bool) (a : Act) (w : World), wpAnyH P md ops Q S' fuel listed a w → wpAnyH P md ops Q S fuel listed a w
  | 0, _, _, _, h => h
  | fuel + 1, _, _, _, h => ⟨h.1, fun i hi => wpOp_mono (fun a' w' h3 => ⟨hs _ h3.1, wpAnyH_more hs fuel _ a' w' h3.2⟩) (h.2 i hi)⟩

/-- A struct that lies in a block is loaded, whole. -/
theorem run_load_blk {P : Program} {op : Oper} {a : Act} {w : World} (ty : TypeId) (x : Operand) (ho : op.op = .load ty x) (B : Nat) (hx : a.eval x = .pointer (some ⟨B, 0, none⟩)) (cs : Array Value) (d : TypeDesc) (hb : Blk w B ty cs)
    (hu : P.underlying ty = some d) (hd : (match d with | .struct _ | .array _ _ => true | _ => false) = true) (hi : (P.info? ty).map (·.size) = some cs.size) : (execOp a.eval op).run P w = .ok (.value (.agg cs)) w := by
  unfold execOp
  simp only [ho, hx, Instr.loadAt, Instr.sureAddr, Sem.run_bind, Sem.run_pure, Result.andThen_ok, run_loadVar_row w B ty ty cs (0, 0) d hb hu hd hi]

section
variable {P : Program} {ops : Array Oper} {Q : Exit → Act → World → Prop} {md : Region.Mode} {S : World → Prop}
/-- The beginning of a walk by hand through a region that draws its order. -/
theorem hw_start {id n : Nat} {a : Act} {w : World} (hn : ops.size = n) (hm : P.follows .mixedOrders = true) (hS : S w.drew) (h : S w.drew → wpAnyH P .any ops Q S n (Array.replicate n false) a w.drew) : (Code.region id ops true).wp P Q a w := by
  subst hn
  exact wp_region_held_drew hm hS h
/-- An operation that only yields is taken first. -/
theorem hw_take {fuel : Nat} {listed : Array Bool} {a : Act} {w : World} (i : Nat) (d : Option Tmp) (v : Value) {oi : Oper} (hi : ops[i]? = some oi) (hd : oi.dst = d)
    (hs : Region.noSelect ops = true) (hf : Region.free md ops listed i = true) (hr : (Region.ready md ops listed).contains i = true)
    (hQ : ∀ c a w, Q (.panic c) (a.put d v) w → Q (.panic c) a w) (hw : Region.wanted oi (yielded ops a.tmps) = true) (hS : S w) (hy : ∀ w, S w → (execOp a.eval oi).run P w = .ok (.value v) w)
    (h : wpAnyH P md ops Q S fuel (listed.setIfInBounds i true) (a.put d v) w) : wpAnyH P md ops Q S (fuel + 1) listed a w := by
  subst hd
  exact wpAnyH_take hi hs hf hr hQ (.inl ⟨hw, hy⟩) hS h
/-- The one operation that may come up is run. -/
theorem hw_call {fuel : Nat} {listed : Array Bool} {a : Act} {w : World} (i : Nat) (d : Option Tmp) {oi : Oper} (hi : ops[i]? = some oi) (hd : oi.dst = d) (hr : Region.ready md ops listed = [i]) (hw : Region.wanted oi (yielded ops a.tmps) = true)
    (h : ∀ K' : Act → World → Prop, Shut (∀ u w', S w' → (S w' → wpAnyH P md ops Q S fuel (listed.setIfInBounds i true) (a.put d u) w') → K' (a.put d u) w') → Oper.wp P oi a w K' Q) : wpAnyH P md ops Q S (fuel + 1) listed a w := by
  subst hd
  refine wpAnyH_ready hr (by simp) ?_
  intro j hj
  obtain rfl := List.mem_singleton.1 hj
  refine wpOp_step hi (fun K' hK => ?_)
  rw [if_pos hw]
  exact h K' (fun u w' hS' hW => hK _ _ ⟨hS', hW hS'⟩)
/-- One of those that may come up is run. -/
theorem hw_step {fuel : Nat} {listed : Array Bool} {a : Act} {w : World} {rs : List Nat} (i : Nat) (d : Option Tmp) {oi : Oper} (hi : ops[i]? = some oi) (hd : oi.dst = d) (hw : Region.wanted oi (yielded ops a.tmps) = true)
    (h : ∀ K' : Act → World → Prop, Shut (∀ u w', S w' → (S w' → wpAnyH P md ops Q S fuel (listed.setIfInBounds i true) (a.put d u) w') → K' (a.put d u) w') → Oper.wp P oi a w K' Q) (hs : AllReadyH P md ops Q S fuel listed a w rs) : AllReadyH P md ops Q S fuel listed a w (i :: rs) := by
  subst hd
  intro j hj
  rcases List.mem_cons.1 hj with rfl | hj
  · refine wpOp_step hi (fun K' hK => ?_)
    rw [if_pos hw]
    exact h K' (fun u w' hS' hW => hK _ _ ⟨hS', hW hS'⟩)
  · exact hs j hj
/-- A struct is stored, whole, into a block that is known. -/
theorem hw_store {a : Act} {w : World} {K : Act → World → Prop} (ty : TypeId) (x y : Operand) {oi : Oper} (ho : oi.op = .store ty x y) (hd : oi.dst = none) (B : Nat) (cs old : Array Value) (hx : a.eval x = .pointer (some ⟨B, 0, none⟩)) (hy : a.eval y = .agg cs)
    (hb : Blk w B ty old) (hi : (P.info? ty).map (·.size) = some cs.size) (hold : old.size = cs.size) (h1 : cs.all (·.oneCell') = true) (h : K (a.put none undef) (w.setRow B cs)) : Oper.wp P oi a w K Q := by
  refine wp_store_row ty x y ho B cs hx hy ty old hb hi hold h1 ?_
  rw [hd]
  exact h
end

theorem results_row3 {fn : Func} {t0 t1 t2 : Tmp} {ty0 ty1 ty2 : TypeId} {P : Program} {w : World} {tmps : Array Value} {B0 B1 B2 : Nat} {cs0 cs1 cs2 : Array Value} (h : fn.results = #[.cell t0 ty0, .cell t1 ty1, .cell t2 ty2])
    (ht0 : tmps[t0]? = some (.pointer (some ⟨B0, 0, none⟩))) (ht1 : tmps[t1]? = some (.pointer (some ⟨B1, 0, none⟩))) (ht2 : tmps[t2]? = some (.pointer (some ⟨B2, 0, none⟩)))
    (hb0 : Blk w B0 ty0 cs0) (hb1 : Blk w B1 ty1 cs1) (hb2 : Blk w B2 ty2 cs2)
    (hu0 : ∃ fs, P.underlying ty0 = some (.struct fs)) (hu1 : ∃ fs, P.underlying ty1 = some (.struct fs)) (hu2 : ∃ fs, P.underlying ty2 = some (.struct fs))
    (hi0 : (P.info? ty0).map (·.size) = some cs0.size) (hi1 : (P.info? ty1).map (·.size) = some cs1.size) (hi2 : (P.info? ty2).map (·.size) = some cs2.size) :
    (results fn tmps).run P w = .ok (.tuple #[.agg cs0, .agg cs1, .agg cs2]) w := by
  obtain ⟨f0, hu0⟩ := hu0
  obtain ⟨f1, hu1⟩ := hu1
  obtain ⟨f2, hu2⟩ := hu2
  have hl0 := run_loadVar_row (P := P) w B0 ty0 ty0 cs0 (0, 0) (.struct f0) hb0 hu0 rfl hi0
  have hl1 := run_loadVar_row (P := P) w B1 ty1 ty1 cs1 (0, 0) (.struct f1) hb1 hu1 rfl hi1
  have hl2 := run_loadVar_row (P := P) w B2 ty2 ty2 cs2 (0, 0) (.struct f2) hb2 hu2 rfl hi2
  simp [results, h, ht0, ht1, ht2, asAddr, hl0, hl1, hl2]

end Go.Proofs.Ytpamejefnegjhaa

namespace Go.Proofs.Ytpamejefnegjhaa
open Go.ChangeShapes Go.WideShapes Go.ChangeAt Go.RowKit Go.Sort
set_option linter.unusedVariables false

/-- The text of bytes. -/
def strU (zs : List Int) : ByteArray := zs.foldl (fun r n => r.push (UInt8.ofNat n.toNat)) ByteArray.empty

theorem run_strU (a : Option Addr) (n c : Nat) (zs : List Int) (w : World) (h : BsAt w a zs) (hn : zs.length = n) (hnone : a = none → n = 0 ∧ c = 0) :
    (convert 22 9 (.slice a n c)).run Try.prog w = .ok (.string (strU zs)) w := by
  rw [run_convert_bytes_string w _ _ 5 a n c Try.underlying22 Try.underlying5 Try.underlying9]
  cases a with
  | none =>
    obtain ⟨rfl, rfl⟩ := hnone rfl
    obtain rfl := List.eq_nil_of_length_eq_zero hn
    simp [Conv.bytesToString, strU]
  | some x =>
    refine run_bytesToString w x n c zs ?_
    have hl := run_loadCells_list (P := Try.prog) (w := w) x (zs.map (Value.int .u8)) (by
      intro j v hv
      rw [List.getElem?_map] at hv
      obtain ⟨z, hz, rfl⟩ := Option.map_eq_some_iff.1 hv
      obtain ⟨b, off, e, hc, _⟩ := h j z hz
      obtain rfl := Option.some.inj e
      rw [Addr.add_lit]
      exact hc)
    rw [List.length_map, hn] at hl
    exact hl

theorem implUF_is (ga a ra : Option Addr) (gn gc n c rn rc : Nat) (has : Bool) (o nx md lc : Int) (gs rs : List (Int × Int)) (xs : List Int) (q : Int) (w : World)
    (hg : PsAt w ga gs) (hx : NsAt w a xs) (hr : PsAt w ra rs) (hgn : gs.length = gn) (hn : xs.length = n) (hrn : rs.length = rn) (hm1 : gn ≤ 1048576) (hm2 : n ≤ 1048576) (hm3 : rn ≤ 1048576) (hq : uf gs has o xs nx md lc rs = q) :
    Calls Try.prog 9 #[.agg #[.slice ga gn gc, .bool has, .int .i64 o, .slice a n c, .int .i64 nx, .int .i64 md, .int .i64 lc, .slice ra rn rc]] w fun e w' => e = .returned (.int .i64 q) ∧ New w w' := hq ▸ implUF ga a ra gn gc n c rn rc has o nx md lc gs rs xs w hg hx hr hgn hn hrn hm1 hm2 hm3

theorem specUF_is (ga a ra : Option Addr) (gn gc n c rn rc : Nat) (has : Bool) (o nx md lc : Int) (gs rs : List (Int × Int)) (xs : List Int) (q : Int) (w : World)
    (hg : PsAt w ga gs) (hx : NsAt w a xs) (hr : PsAt w ra rs) (hgn : gs.length = gn) (hn : xs.length = n) (hrn : rs.length = rn) (hm1 : gn ≤ 1048576) (hm2 : n ≤ 1048576) (hm3 : rn ≤ 1048576) (hq : uf gs has o xs nx md lc rs = q) :
    Calls Try.prog 11 #[.agg #[.slice ga gn gc, .bool has, .int .i64 o, .slice a n c, .int .i64 nx, .int .i64 md, .int .i64 lc, .slice ra rn rc]] w fun e w' => e = .returned (.int .i64 q) ∧ New w w' := hq ▸ specUF ga a ra gn gc n c rn rc has o nx md lc gs rs xs w hg hx hr hgn hn hrn hm1 hm2 hm3

set_option maxRecDepth 100000 in
set_option maxHeartbeats 16000000 in
theorem fup_walk (a : Option Addr) (n c : Nat) (zs : List Int) (w : World) (h : BsAt w a zs) (hn : zs.length = n) (hm : n ≤ maxLen) :
    Calls Try.prog 3 #[.slice a n c] w fun e w' => e = .returned (.bool true) ∧ New w w' := by
  by_cases hbig : 1048576 < n
  · go_enter Try.func3, Try.ntmps3
    go_wp2_with fail
    refine (lbig_yes a n c _ hbig).mono ?_
    rintro e w1 ⟨rfl, rfl⟩
    go_wp2
    go_ret
    exact ⟨rfl, New.refl _⟩
  · have HN : Hid (zs.length = n) := hn
    have ha : ∀ W, New w W → ∀ x, zs ≠ [] → a = some x → x.block < W.heap.size := by
      intro W hN x hz hx
      obtain ⟨b, off, e, hb⟩ := h.block_lt hz
      rw [e] at hx
      obtain rfl := Option.some.inj hx
      have := hN.size
      simp only
      omega
    clear hn hm
    go_enter Try.func3, Try.ntmps3
    go_wp2_with fail
    refine (lbig_no a n c _ hbig).mono ?_
    rintro e w1 ⟨rfl, rfl⟩
    go_wp2_with fail
    refine (drawParse_any a n c zs _ h HN.out (by omega) (ha _ (New.refl _))).mono ?_
    rintro e w2 ⟨g2, m2, cap2, ys, rfl, hm2, hc2, hl2, hg2, hlt2, hb2, hn2⟩
    have HL : Hid (ys.length = m2) := hl2
    clear hl2
    go_wp2_with fail
    refine (implParse _ m2 cap2 ys _ hb2 HL.out hc2 (by omega)).mono ?_
    rintro e w3 ⟨x3, y3, z3, rfl, hG3, hn3⟩
    have HBd : Bd (pu ys) := pu_bd ys hb2.lt (by rw [HL.out]; omega)
    have HUF : Hid (ufU (pu ys) = 0) := pu_uf ys
    have HPK : Hid ((pu ys).code = 0 → upB (pu ys).gs (pu ys).has (pu ys).o (pu ys).xs (pu ys).nx (pu ys).md (pu ys).lc (pu ys).rs = ys) := upB_pu ys hb2.lt
    generalize hP : pu ys = P at *
    have HP : Hid (pu ys = P) := hP
    clear hP
    obtain ⟨code, soft, gs, has, o, xs, nx, md, lc, rs⟩ := P
    obtain ⟨ga3, gc3, ex⟩ := hG3.g.slice
    obtain ⟨xa3, xc3, ey⟩ := hG3.n.slice
    obtain ⟨ra3, rc3, ez⟩ := hG3.r.slice
    subst ex
    subst ey
    subst ez
    simp only at hG3
    have pg := hG3.g.psA HBd.g
    have pn := hG3.n.nsA HBd.n
    have pr := hG3.r.psA HBd.r
    unfold puV
    simp only
    have hal3 := (New.refl w3).alloc (.cells #[.int .i64 code, .bool soft, .slice ga3 gs.length gc3, .bool has, .int .i64 o, .slice xa3 xs.length xc3, .int .i64 nx, .int .i64 md, .int .i64 lc, .slice ra3 rs.length rc3] 32)
    have b3 := Blk.mk w3 w3.heap.size 32 #[.int .i64 code, .bool soft, .slice ga3 gs.length gc3, .bool has, .int .i64 o, .slice xa3 xs.length xc3, .int .i64 nx, .int .i64 md, .int .i64 lc, .slice ra3 rs.length rc3] rfl
    have hnn3 := hn3.trans hal3
    have N3 := hn2.trans hnn3
    have hb3 := hb2.new hnn3
    clear hG3 hb2 hn3
    go_wp2_with fail
    refine (specParse _ m2 cap2 ys _ hb3 HL.out hc2 (by omega)).mono ?_
    rintro e w4 ⟨x4, y4, z4, rfl, hG4, hn4⟩
    rw [HP.out] at hG4 ⊢
    obtain ⟨ga4, gc4, ex⟩ := hG4.g.slice
    obtain ⟨xa4, xc4, ey⟩ := hG4.n.slice
    obtain ⟨ra4, rc4, ez⟩ := hG4.r.slice
    subst ex
    subst ey
    subst ez
    simp only at hG4
    unfold puV
    simp only
    have hal4 := (New.refl w4).alloc (.cells #[.int .i64 code, .bool soft, .slice ga4 gs.length gc4, .bool has, .int .i64 o, .slice xa4 xs.length xc4, .int .i64 nx, .int .i64 md, .int .i64 lc, .slice ra4 rs.length rc4] 32)
    have b4 := Blk.mk w4 w4.heap.size 32 #[.int .i64 code, .bool soft, .slice ga4 gs.length gc4, .bool has, .int .i64 o, .slice xa4 xs.length xc4, .int .i64 nx, .int .i64 md, .int .i64 lc, .slice ra4 rs.length rc4] rfl
    have hnn4 := hn4.trans hal4
    have b34 := b3.new hnn4
    have N4 := N3.trans hnn4
    have hb4 := hb3.new hnn4
    have pg4 := ((pg.new hal3).new hnn4)
    have pn4 := ((pn.new hal3).new hnn4)
    have pr4 := ((pr.new hal3).new hnn4)
    have hl1 := HBd.lg
    have hl2 := HBd.ln
    have hl3 := HBd.lr
    have HU : Hid (uf gs has o xs nx md lc rs = 0) := HUF.out
    have HPK' : Hid (code = 0 → upB gs has o xs nx md lc rs = ys) := HPK.out
    simp only at hl1 hl2 hl3
    have hcc : (code != code) = false := by simp
    have hss : (soft != soft) = false := by cases soft <;> rfl
    clear hG4 hn4 hnn4 hb3 pg pn pr b3 N3 hnn3 HUF HPK HBd
    have c3 := b34.cells
    have c4 := b4.cells
    clear hal3
    have hci : (code == 0) = decide (code = 0) := rfl
    go_upto_region 6 with fail
    generalize hW : (w4.alloc (.cells #[.int .i64 code, .bool soft, .slice ga4 gs.length gc4, .bool has, .int .i64 o, .slice xa4 xs.length xc4, .int .i64 nx, .int .i64 md, .int .i64 lc, .slice ra4 rs.length rc4] 32)) = W at *
    clear hW hal4
    go_cut [49] from 17 to 49 (fun v wx => v = .bool false ∧ New W wx)
    case first =>
      by_cases hc0 : code = 0
      · subst hc0
        have E : Hid (upB gs has o xs nx md lc rs = ys) := HPK'.out rfl
        have rB : ∀ X, New W X → (convert 22 9 (.slice (some ⟨g2, 0, none⟩) m2 cap2)).run Try.prog X = .ok (.string (strU ys)) X := fun X hX => run_strU _ _ _ ys X (hb4.new hX) HL.out (by intro h; cases h)
        have rB0 := rB W.drew ((New.refl _).drew)
        have hfd : ∀ (q : Int) (v : Value) (X : World), (Instr.field 35 (.agg #[.int .i64 q, v]) 1).run Try.prog X = .ok v X := fun _ _ _ => by kernel_rfl
        refine hw_start (n := 33) (S := fun X => New W X) rfl (by kernel_rfl) ((New.refl _).drew) (fun hH => ?_)
        refine' hw_take 0 (some 17) _ rfl rfl (by kernel_rfl) (by kernel_rfl) (by kernel_rfl) (fun _ _ _ h => h) (by rfl) hH ?hy1 ?rest1
        case hy1 =>
          intro X hX
          have c3 := (b34.new hX).cells
          have c4 := (b4.new hX).cells
          have rBX := rB X hX
          go_simp
          try rfl
        simp only [Act.put, List.setIfInBounds_toArray, List.set_cons_zero, List.set_cons_succ]
        refine' hw_take 1 (some 18) _ rfl rfl (by kernel_rfl) (by kernel_rfl) (by kernel_rfl) (fun _ _ _ h => h) (by rfl) hH ?hy2 ?rest2
        case hy2 =>
          intro X hX
          have c3 := (b34.new hX).cells
          have c4 := (b4.new hX).cells
          have rBX := rB X hX
          go_simp
          try rfl
        simp only [Act.put, List.setIfInBounds_toArray, List.set_cons_zero, List.set_cons_succ]
        refine' hw_take 2 (some 19) _ rfl rfl (by kernel_rfl) (by kernel_rfl) (by kernel_rfl) (fun _ _ _ h => h) (by rfl) hH ?hy3 ?rest3
        case hy3 =>
          intro X hX
          have c3 := (b34.new hX).cells
          have c4 := (b4.new hX).cells
          have rBX := rB X hX
          go_simp
          try rfl
        simp only [Act.put, List.setIfInBounds_toArray, List.set_cons_zero, List.set_cons_succ]
        refine' hw_take 3 (some 20) _ rfl rfl (by kernel_rfl) (by kernel_rfl) (by kernel_rfl) (fun _ _ _ h => h) (by rfl) hH ?hy4 ?rest4
        case hy4 =>
          intro X hX
          have c3 := (b34.new hX).cells
          have c4 := (b4.new hX).cells
          have rBX := rB X hX
          go_simp
          try rfl
        simp only [Act.put, List.setIfInBounds_toArray, List.set_cons_zero, List.set_cons_succ]
        refine' hw_take 4 (some 21) _ rfl rfl (by kernel_rfl) (by kernel_rfl) (by kernel_rfl) (fun _ _ _ h => h) (by rfl) hH ?hy5 ?rest5
        case hy5 =>
          intro X hX
          have c3 := (b34.new hX).cells
          have c4 := (b4.new hX).cells
          have rBX := rB X hX
          go_simp
          try rfl
        simp only [Act.put, List.setIfInBounds_toArray, List.set_cons_zero, List.set_cons_succ]
        refine' hw_take 5 (some 22) _ rfl rfl (by kernel_rfl) (by kernel_rfl) (by kernel_rfl) (fun _ _ _ h => h) (by rfl) hH ?hy6 ?rest6
        case hy6 =>
          intro X hX
          have c3 := (b34.new hX).cells
          have c4 := (b4.new hX).cells
          have rBX := rB X hX
          go_simp
          try rfl
        simp only [Act.put, List.setIfInBounds_toArray, List.set_cons_zero, List.set_cons_succ]
        refine' hw_take 6 (some 23) _ rfl rfl (by kernel_rfl) (by kernel_rfl) (by kernel_rfl) (fun _ _ _ h => h) (by rfl) hH ?hy7 ?rest7
        case hy7 =>
          intro X hX
          have c3 := (b34.new hX).cells
          have c4 := (b4.new hX).cells
          have rBX := rB X hX
          go_simp
          try rfl
        simp only [Act.put, List.setIfInBounds_toArray, List.set_cons_zero, List.set_cons_succ]
        refine' hw_take 7 (some 24) _ rfl rfl (by kernel_rfl) (by kernel_rfl) (by kernel_rfl) (fun _ _ _ h => h) (by rfl) hH ?hy8 ?rest8
        case hy8 =>
          intro X hX
          have c3 := (b34.new hX).cells
          have c4 := (b4.new hX).cells
          have rBX := rB X hX
          go_simp
          try rfl
        simp only [Act.put, List.setIfInBounds_toArray, List.set_cons_zero, List.set_cons_succ]
        refine' hw_take 8 (some 25) _ rfl rfl (by kernel_rfl) (by kernel_rfl) (by kernel_rfl) (fun _ _ _ h => h) (by rfl) hH ?hy9 ?rest9
        case hy9 =>
          intro X hX
          have c3 := (b34.new hX).cells
          have c4 := (b4.new hX).cells
          have rBX := rB X hX
          go_simp
          try rfl
        simp only [Act.put, List.setIfInBounds_toArray, List.set_cons_zero, List.set_cons_succ]
        refine' hw_take 9 (some 26) _ rfl rfl (by kernel_rfl) (by kernel_rfl) (by kernel_rfl) (fun _ _ _ h => h) (by rfl) hH ?hy10 ?rest10
        case hy10 =>
          intro X hX
          have c3 := (b34.new hX).cells
          have c4 := (b4.new hX).cells
          have rBX := rB X hX
          go_simp
          try rfl
        simp only [Act.put, List.setIfInBounds_toArray, List.set_cons_zero, List.set_cons_succ]
        refine' hw_take 10 (some 27) _ rfl rfl (by kernel_rfl) (by kernel_rfl) (by kernel_rfl) (fun _ _ _ h => h) (by rfl) hH ?hy11 ?rest11
        case hy11 =>
          intro X hX
          have c3 := (b34.new hX).cells
          have c4 := (b4.new hX).cells
          have rBX := rB X hX
          go_simp
          try rfl
        simp only [Act.put, List.setIfInBounds_toArray, List.set_cons_zero, List.set_cons_succ]
        refine' hw_take 11 (some 28) _ rfl rfl (by kernel_rfl) (by kernel_rfl) (by kernel_rfl) (fun _ _ _ h => h) (by rfl) hH ?hy12 ?rest12
        case hy12 =>
          intro X hX
          have c3 := (b34.new hX).cells
          have c4 := (b4.new hX).cells
          have rBX := rB X hX
          go_simp
          try rfl
        simp only [Act.put, List.setIfInBounds_toArray, List.set_cons_zero, List.set_cons_succ]
        refine' hw_take 12 (some 29) _ rfl rfl (by kernel_rfl) (by kernel_rfl) (by kernel_rfl) (fun _ _ _ h => h) (by rfl) hH ?hy13 ?rest13
        case hy13 =>
          intro X hX
          have c3 := (b34.new hX).cells
          have c4 := (b4.new hX).cells
          have rBX := rB X hX
          go_simp
          try rfl
        simp only [Act.put, List.setIfInBounds_toArray, List.set_cons_zero, List.set_cons_succ]
        refine' hw_take 13 (some 30) _ rfl rfl (by kernel_rfl) (by kernel_rfl) (by kernel_rfl) (fun _ _ _ h => h) (by rfl) hH ?hy14 ?rest14
        case hy14 =>
          intro X hX
          have c3 := (b34.new hX).cells
          have c4 := (b4.new hX).cells
          have rBX := rB X hX
          go_simp
          try rfl
        simp only [Act.put, List.setIfInBounds_toArray, List.set_cons_zero, List.set_cons_succ]
        refine' hw_take 14 (some 31) _ rfl rfl (by kernel_rfl) (by kernel_rfl) (by kernel_rfl) (fun _ _ _ h => h) (by rfl) hH ?hy15 ?rest15
        case hy15 =>
          intro X hX
          have c3 := (b34.new hX).cells
          have c4 := (b4.new hX).cells
          have rBX := rB X hX
          go_simp
          try rfl
        simp only [Act.put, List.setIfInBounds_toArray, List.set_cons_zero, List.set_cons_succ]
        refine' hw_take 15 (some 32) _ rfl rfl (by kernel_rfl) (by kernel_rfl) (by kernel_rfl) (fun _ _ _ h => h) (by rfl) hH ?hy16 ?rest16
        case hy16 =>
          intro X hX
          have c3 := (b34.new hX).cells
          have c4 := (b4.new hX).cells
          have rBX := rB X hX
          go_simp
          try rfl
        simp only [Act.put, List.setIfInBounds_toArray, List.set_cons_zero, List.set_cons_succ]
        refine' hw_take 16 (some 33) _ rfl rfl (by kernel_rfl) (by kernel_rfl) (by kernel_rfl) (fun _ _ _ h => h) (by rfl) hH ?hy17 ?rest17
        case hy17 =>
          intro X hX
          have c3 := (b34.new hX).cells
          have c4 := (b4.new hX).cells
          have rBX := rB X hX
          go_simp
          try rfl
        simp only [Act.put, List.setIfInBounds_toArray, List.set_cons_zero, List.set_cons_succ]
        refine' hw_take 17 (some 34) _ rfl rfl (by kernel_rfl) (by kernel_rfl) (by kernel_rfl) (fun _ _ _ h => h) (by rfl) hH ?hy18 ?rest18
        case hy18 =>
          intro X hX
          have c3 := (b34.new hX).cells
          have c4 := (b4.new hX).cells
          have rBX := rB X hX
          go_simp
          try rfl
        simp only [Act.put, List.setIfInBounds_toArray, List.set_cons_zero, List.set_cons_succ]
        refine' hw_take 18 (some 35) _ rfl rfl (by kernel_rfl) (by kernel_rfl) (by kernel_rfl) (fun _ _ _ h => h) (by rfl) hH ?hy19 ?rest19
        case hy19 =>
          intro X hX
          have c3 := (b34.new hX).cells
          have c4 := (b4.new hX).cells
          have rBX := rB X hX
          go_simp
          try rfl
        simp only [Act.put, List.setIfInBounds_toArray, List.set_cons_zero, List.set_cons_succ]
        refine' hw_take 22 (some 39) _ rfl rfl (by kernel_rfl) (by kernel_rfl) (by kernel_rfl) (fun _ _ _ h => h) (by rfl) hH ?hy20 ?rest20
        case hy20 =>
          intro X hX
          have c3 := (b34.new hX).cells
          have c4 := (b4.new hX).cells
          have rBX := rB X hX
          go_simp
          try rfl
        simp only [Act.put, List.setIfInBounds_toArray, List.set_cons_zero, List.set_cons_succ]
        refine' hw_take 23 (some 40) _ rfl rfl (by kernel_rfl) (by kernel_rfl) (by kernel_rfl) (fun _ _ _ h => h) (by rfl) hH ?hy21 ?rest21
        case hy21 =>
          intro X hX
          have c3 := (b34.new hX).cells
          have c4 := (b4.new hX).cells
          have rBX := rB X hX
          go_simp
          try rfl
        simp only [Act.put, List.setIfInBounds_toArray, List.set_cons_zero, List.set_cons_succ]
        refine hw_call 19 (some 36) rfl rfl (by kernel_rfl) (by rfl) (fun K hK => ?_)
        go_simp
        go_at_call 8
        refine (implPU ga3 xa3 ra3 gs.length gc3 xs.length xc3 rs.length rc3 has o nx md lc gs rs xs _ (pg4.new hH) (pn4.new hH) (pr4.new hH) rfl rfl rfl hl1 hl2 hl3).mono ?_
        rintro e w5 ⟨a5, m5, cap5, ys5, rfl, ho5, hys5, hp5, hn5, HY5, hnil5, hm5⟩
        rw [HU.out]
        have hY5 : ys5 = ys := by rw [HY5, if_pos HU.out]; exact E.out
        have r5 : ∀ X, New w5 X → (convert 22 9 (.slice a5 m5 cap5)).run Try.prog X = .ok (.string (strU ys)) X := fun X hX => by rw [← hY5]; exact run_strU a5 m5 cap5 ys5 X ((ho5.bs hys5).new hX) ho5.1 hnil5
        clear hY5 HY5 hys5 ho5 hp5 hnil5
        refine hK.out _ _ (hH.trans hn5) (fun hH => ?_)
        refine wpAnyH_more (S' := fun X => New W X ∧ New w5 X) (fun _ h => h.1) _ _ _ _ ?_
        have hH2 : New W w5 ∧ New w5 w5 := ⟨hH, New.refl _⟩
        simp only [Act.put, List.setIfInBounds_toArray, List.set_cons_zero, List.set_cons_succ]
        refine' hw_take 20 (some 37) _ rfl rfl (by kernel_rfl) (by kernel_rfl) (by kernel_rfl) (fun _ _ _ h => h) (by rfl) hH2 ?hy22 ?rest22
        case hy22 =>
          intro X hX
          have c3 := (b34.new hX.1).cells
          have c4 := (b4.new hX.1).cells
          have rBX := rB X hX.1
          have r5X := r5 X hX.2
          go_simp
          try rfl
        simp only [Act.put, List.setIfInBounds_toArray, List.set_cons_zero, List.set_cons_succ]
        refine' hw_take 21 (some 38) _ rfl rfl (by kernel_rfl) (by kernel_rfl) (by kernel_rfl) (fun _ _ _ h => h) (by rfl) hH2 ?hy23 ?rest23
        case hy23 =>
          intro X hX
          have c3 := (b34.new hX.1).cells
          have c4 := (b4.new hX.1).cells
          have rBX := rB X hX.1
          have r5X := r5 X hX.2
          go_simp
          try rfl
        simp only [Act.put, List.setIfInBounds_toArray, List.set_cons_zero, List.set_cons_succ]
        refine' hw_take 24 (some 41) _ rfl rfl (by kernel_rfl) (by kernel_rfl) (by kernel_rfl) (fun _ _ _ h => h) (by rfl) hH2 ?hy24 ?rest24
        case hy24 =>
          intro X hX
          have c3 := (b34.new hX.1).cells
          have c4 := (b4.new hX.1).cells
          have rBX := rB X hX.1
          have r5X := r5 X hX.2
          go_simp
          try rfl
        simp only [Act.put, List.setIfInBounds_toArray, List.set_cons_zero, List.set_cons_succ]
        refine' hw_take 25 (some 42) _ rfl rfl (by kernel_rfl) (by kernel_rfl) (by kernel_rfl) (fun _ _ _ h => h) (by rfl) hH2 ?hy25 ?rest25
        case hy25 =>
          intro X hX
          have c3 := (b34.new hX.1).cells
          have c4 := (b4.new hX.1).cells
          have rBX := rB X hX.1
          have r5X := r5 X hX.2
          go_simp
          try rfl
        simp only [Act.put, List.setIfInBounds_toArray, List.set_cons_zero, List.set_cons_succ]
        refine' hw_take 26 (some 43) _ rfl rfl (by kernel_rfl) (by kernel_rfl) (by kernel_rfl) (fun _ _ _ h => h) (by rfl) hH2 ?hy26 ?rest26
        case hy26 =>
          intro X hX
          have c3 := (b34.new hX.1).cells
          have c4 := (b4.new hX.1).cells
          have rBX := rB X hX.1
          have r5X := r5 X hX.2
          go_simp
          try rfl
        simp only [Act.put, List.setIfInBounds_toArray, List.set_cons_zero, List.set_cons_succ]
        refine' hw_take 27 (some 44) _ rfl rfl (by kernel_rfl) (by kernel_rfl) (by kernel_rfl) (fun _ _ _ h => h) (by rfl) hH2 ?hy27 ?rest27
        case hy27 =>
          intro X hX
          have c3 := (b34.new hX.1).cells
          have c4 := (b4.new hX.1).cells
          have rBX := rB X hX.1
          have r5X := r5 X hX.2
          go_simp
          try rfl
        simp only [Act.put, List.setIfInBounds_toArray, List.set_cons_zero, List.set_cons_succ]
        refine' hw_take 28 (some 45) _ rfl rfl (by kernel_rfl) (by kernel_rfl) (by kernel_rfl) (fun _ _ _ h => h) (by rfl) hH2 ?hy28 ?rest28
        case hy28 =>
          intro X hX
          have c3 := (b34.new hX.1).cells
          have c4 := (b4.new hX.1).cells
          have rBX := rB X hX.1
          have r5X := r5 X hX.2
          go_simp
          try rfl
        simp only [Act.put, List.setIfInBounds_toArray, List.set_cons_zero, List.set_cons_succ]
        refine' hw_take 29 (some 46) _ rfl rfl (by kernel_rfl) (by kernel_rfl) (by kernel_rfl) (fun _ _ _ h => h) (by rfl) hH2 ?hy29 ?rest29
        case hy29 =>
          intro X hX
          have c3 := (b34.new hX.1).cells
          have c4 := (b4.new hX.1).cells
          have rBX := rB X hX.1
          have r5X := r5 X hX.2
          go_simp
          try rfl
        simp only [Act.put, List.setIfInBounds_toArray, List.set_cons_zero, List.set_cons_succ]
        refine hw_call 30 (some 47) rfl rfl (by kernel_rfl) (by rfl) (fun K hK => ?_)
        go_simp
        go_at_call 9
        refine (implUF ga3 xa3 ra3 gs.length gc3 xs.length xc3 rs.length rc3 has o nx md lc gs rs xs _ (pg4.new hH) (pn4.new hH) (pr4.new hH) rfl rfl rfl hl1 hl2 hl3).mono ?_
        rintro e w6 ⟨rfl, hn6⟩
        rw [HU.out]
        refine hK.out _ _ ⟨hH.trans hn6, hn6⟩ (fun hH2 => ?_)
        simp only [Act.put, List.setIfInBounds_toArray, List.set_cons_zero, List.set_cons_succ]
        refine' hw_take 31 (some 48) _ rfl rfl (by kernel_rfl) (by kernel_rfl) (by kernel_rfl) (fun _ _ _ h => h) (by rfl) hH2 ?hy30 ?rest30
        case hy30 =>
          intro X hX
          have c3 := (b34.new hX.1).cells
          have c4 := (b4.new hX.1).cells
          have rBX := rB X hX.1
          have r5X := r5 X hX.2
          go_simp
          try rfl
        simp only [Act.put, List.setIfInBounds_toArray, List.set_cons_zero, List.set_cons_succ]
        refine' hw_take 32 (some 49) _ rfl rfl (by kernel_rfl) (by kernel_rfl) (by kernel_rfl) (fun _ _ _ h => h) (by rfl) hH2 ?hy31 ?rest31
        case hy31 =>
          intro X hX
          have c3 := (b34.new hX.1).cells
          have c4 := (b4.new hX.1).cells
          have rBX := rB X hX.1
          have r5X := r5 X hX.2
          go_simp
          try rfl
        simp only [Act.put, List.setIfInBounds_toArray, List.set_cons_zero, List.set_cons_succ]
        refine wpAnyH_done (by kernel_rfl) ?_ _
        go_wp2
        go_meet
        exact ⟨rfl, hH2.1⟩
      · have hc0' : (code == 0) = false := by simpa using hc0
        have c3r := blk_regrown b34
        have c4r := blk_regrown b4
        refine wp_region_quiet_below (by kernel_rfl) (by kernel_rfl) ?_
        repeat (go_big_quiet_step ((go_at_call 9; exact calls_regrown (implUF_is ga3 xa3 ra3 gs.length gc3 xs.length xc3 rs.length rc3 has o nx md lc gs rs xs 0 _ (pg4.new (new_regrown _ _ _)) (pn4.new (new_regrown _ _ _)) (pr4.new (new_regrown _ _ _)) rfl rfl rfl hl1 hl2 hl3 HU.out))))
        refine wpQuiet_nil ?_
        rintro w12 hn12
        replace hn12 := new_of_regrown hn12
        go_wp2
        go_meet
        exact ⟨rfl, hn12⟩
    case rest =>
      obtain ⟨rfl, hNc⟩ := hcut
      have N6 := N4.trans hNc
      clear c3 c4 b34 b4 hb4 pg4 pn4 pr4 HU HPK' hl1 hl2 hl3 hss hcc hci hNc HP
      go_wp2_with fail
      refine (drawPackU_any a n c zs _ (h.new N6) HN.out (by omega) (ha _ N6)).mono ?_
      rintro e w7 ⟨gsU, rsU, xsU, hasU, oU, nxU, mdU, lcU, gaU, xaU, raU, gm, gcU, xm, xcU, rm, rcU, rfl, lgU, lxU, lrU, bgU, bxU, brU, pgU, pnU, prU, hn7⟩
      have HG : Hid (gsU.length = gm) := lgU
      have HX : Hid (xsU.length = xm) := lxU
      have HR : Hid (rsU.length = rm) := lrU
      have hal7 := (New.refl w7).alloc (.cells #[.slice gaU gm gcU, .bool hasU, .int .i64 oU, .slice xaU xm xcU, .int .i64 nxU, .int .i64 mdU, .int .i64 lcU, .slice raU rm rcU] 30)
      have b7 := Blk.mk w7 w7.heap.size 30 #[.slice gaU gm gcU, .bool hasU, .int .i64 oU, .slice xaU xm xcU, .int .i64 nxU, .int .i64 mdU, .int .i64 lcU, .slice raU rm rcU] rfl
      have N7 := (N6.trans hn7).trans hal7
      have pg7 := pgU.new hal7
      have pn7 := pnU.new hal7
      have pr7 := prU.new hal7
      clear lgU lxU lrU pgU pnU prU hn7 hal7 N6
      have cU := b7.cells
      go_wp2_with fail
      refine (implPU gaU xaU raU gm gcU xm xcU rm rcU hasU oU nxU mdU lcU gsU rsU xsU _ pg7 pn7 pr7 HG.out HX.out HR.out (by omega) (by omega) (by omega)).mono ?_
      rintro e w8 ⟨a8, m8, cap8, ys8, rfl, ho8, hys8, hp8, hn8, HY8, hnil8, hm8⟩
      have HYh : Hid (ys8 = if uf gsU hasU oU xsU nxU mdU lcU rsU = 0 then upB gsU hasU oU xsU nxU mdU lcU rsU else []) := HY8
      generalize huq : uf gsU hasU oU xsU nxU mdU lcU rsU = uq at *
      have HUQ : Hid (uf gsU hasU oU xsU nxU mdU lcU rsU = uq) := huq
      clear huq HY8
      have hal8 := (New.refl w8).alloc (.cells #[.int .i64 uq, .slice a8 m8 cap8] 35)
      have b8 := Blk.mk w8 w8.heap.size 35 #[.int .i64 uq, .slice a8 m8 cap8] rfl
      have hnn8 := hn8.trans hal8
      have b78 := b7.new hnn8
      have N8 := N7.trans hnn8
      have pg8 := pg7.new hnn8
      have pn8 := pn7.new hnn8
      have pr8 := pr7.new hnn8
      have ho8' := ho8.new hal8
      clear cU b7 N7 pg7 pn7 pr7 hn8 hnn8 ho8 hp8
      have c7 := b78.cells
      have c8 := b8.cells
      by_cases hu : uq = 0
      · subst hu
        have HY : Hid (ys8 = upB gsU hasU oU xsU nxU mdU lcU rsU) := by unfold Hid; rw [HYh.out, if_pos rfl]
        have hl8 : ys8.length = m8 := ho8'.1
        have HL8 : Hid (ys8.length = m8) := hl8
        have hpu : Hid (pu ys8 = ⟨0, false, gsU, hasU, oU, xsU, nxU, mdU, lcU, rsU⟩) := by unfold Hid; rw [HY.out]; exact pu_upB gsU hasU oU xsU nxU mdU lcU rsU HUQ.out
        have hc8 : m8 ≤ cap8 := by
          rcases Nat.eq_zero_or_pos m8 with h0 | h0
          · omega
          · obtain ⟨g, rfl, hr⟩ := ho8'.2 h0
            rcases hr.2 with ⟨h', _⟩ | ⟨_, _, _, h', _, _, hle, _⟩
            · simp at h'
            · simp only [Value.slice.injEq, Option.some.injEq, Addr.mk.injEq, and_true, true_and] at h'
              omega
        clear hl8 HYh
        go_wp2_with fail
        refine (implParse a8 m8 cap8 ys8 _ (ho8'.bs hys8) HL8.out hc8 (by omega)).mono ?_
        rintro e w9 ⟨x9, y9, z9, rfl, hG9, hn9⟩
        rw [hpu.out] at hG9 ⊢
        obtain ⟨ga9, gc9, ex⟩ := hG9.g.slice
        obtain ⟨xa9, xc9, ey⟩ := hG9.n.slice
        obtain ⟨ra9, rc9, ez⟩ := hG9.r.slice
        subst ex
        subst ey
        subst ez
        simp only at hG9
        rw [HG.out, HX.out, HR.out] at hG9
        have pgb := hG9.g.psA pg8.bd
        have pnb := hG9.n.nsA pn8.bd
        have prb := hG9.r.psA pr8.bd
        unfold puV
        simp only
        rw [HG.out, HX.out, HR.out]
        have hal9 := (New.refl w9).alloc (.cells #[.int .i64 0, .bool false, .slice ga9 gm gc9, .bool hasU, .int .i64 oU, .slice xa9 xm xc9, .int .i64 nxU, .int .i64 mdU, .int .i64 lcU, .slice ra9 rm rc9] 32)
        have b9 := Blk.mk w9 w9.heap.size 32 #[.int .i64 0, .bool false, .slice ga9 gm gc9, .bool hasU, .int .i64 oU, .slice xa9 xm xc9, .int .i64 nxU, .int .i64 mdU, .int .i64 lcU, .slice ra9 rm rc9] rfl
        have hnn9 := hn9.trans hal9
        have b79 := b78.new hnn9
        have b89 := b8.new hnn9
        have N9 := N8.trans hnn9
        have bs9 := (ho8'.bs hys8).new hnn9
        have pg9 := pg8.new hnn9
        have pn9 := pn8.new hnn9
        have pr9 := pr8.new hnn9
        have qg9 := pgb.new hal9
        have qn9 := pnb.new hal9
        have qr9 := prb.new hal9
        have HSA : decide (SaP oU xsU nxU mdU lcU oU xsU nxU mdU lcU) = true := by simp [SaP]
        have hhb : (hasU == hasU) = true := by simp
        clear hG9 pgb pnb prb c7 c8 b78 b8 N8 ho8' pg8 pn8 pr8 hn9 hnn9
        have c7 := b79.cells
        have c8 := b89.cells
        have c9 := b9.cells
        go_upto_region 13 with fail
        generalize hW9 : (w9.alloc (.cells #[.int .i64 0, .bool false, .slice ga9 gm gc9, .bool hasU, .int .i64 oU, .slice xa9 xm xc9, .int .i64 nxU, .int .i64 mdU, .int .i64 lcU, .slice ra9 rm rc9] 32)) = W9 at *
        clear hW9 hal9
        have rB : ∀ X, New W9 X → (convert 22 9 (.slice a8 m8 cap8)).run Try.prog X = .ok (.string (strU ys8)) X := fun X hX => run_strU _ _ _ ys8 X (bs9.new hX) HL8.out hnil8
        have hfd : ∀ (q : Int) (v : Value) (X : World), (Instr.field 35 (.agg #[.int .i64 q, v]) 1).run Try.prog X = .ok v X := fun _ _ _ => by kernel_rfl
        refine hw_start (n := 51) (S := fun X => New W9 X) rfl (by kernel_rfl) ((New.refl _).drew) (fun hH => ?_)
        refine' hw_take 0 (some 65) _ rfl rfl (by kernel_rfl) (by kernel_rfl) (by kernel_rfl) (fun _ _ _ h => h) (by rfl) hH ?hy32 ?rest32
        case hy32 =>
          intro X hX
          have c7 := (b79.new hX).cells
          have c8 := (b89.new hX).cells
          have c9 := (b9.new hX).cells
          have rBX := rB X hX
          go_simp
          try rfl
        simp only [Act.put, List.setIfInBounds_toArray, List.set_cons_zero, List.set_cons_succ]
        refine' hw_take 1 (some 66) _ rfl rfl (by kernel_rfl) (by kernel_rfl) (by kernel_rfl) (fun _ _ _ h => h) (by rfl) hH ?hy33 ?rest33
        case hy33 =>
          intro X hX
          have c7 := (b79.new hX).cells
          have c8 := (b89.new hX).cells
          have c9 := (b9.new hX).cells
          have rBX := rB X hX
          go_simp
          try rfl
        simp only [Act.put, List.setIfInBounds_toArray, List.set_cons_zero, List.set_cons_succ]
        refine' hw_take 2 (some 67) _ rfl rfl (by kernel_rfl) (by kernel_rfl) (by kernel_rfl) (fun _ _ _ h => h) (by rfl) hH ?hy34 ?rest34
        case hy34 =>
          intro X hX
          have c7 := (b79.new hX).cells
          have c8 := (b89.new hX).cells
          have c9 := (b9.new hX).cells
          have rBX := rB X hX
          go_simp
          try rfl
        simp only [Act.put, List.setIfInBounds_toArray, List.set_cons_zero, List.set_cons_succ]
        refine' hw_take 3 (some 68) _ rfl rfl (by kernel_rfl) (by kernel_rfl) (by kernel_rfl) (fun _ _ _ h => h) (by rfl) hH ?hy35 ?rest35
        case hy35 =>
          intro X hX
          have c7 := (b79.new hX).cells
          have c8 := (b89.new hX).cells
          have c9 := (b9.new hX).cells
          have rBX := rB X hX
          go_simp
          try rfl
        simp only [Act.put, List.setIfInBounds_toArray, List.set_cons_zero, List.set_cons_succ]
        refine' hw_take 4 (some 69) _ rfl rfl (by kernel_rfl) (by kernel_rfl) (by kernel_rfl) (fun _ _ _ h => h) (by rfl) hH ?hy36 ?rest36
        case hy36 =>
          intro X hX
          have c7 := (b79.new hX).cells
          have c8 := (b89.new hX).cells
          have c9 := (b9.new hX).cells
          have rBX := rB X hX
          go_simp
          try rfl
        simp only [Act.put, List.setIfInBounds_toArray, List.set_cons_zero, List.set_cons_succ]
        refine' hw_take 5 (some 70) _ rfl rfl (by kernel_rfl) (by kernel_rfl) (by kernel_rfl) (fun _ _ _ h => h) (by rfl) hH ?hy37 ?rest37
        case hy37 =>
          intro X hX
          have c7 := (b79.new hX).cells
          have c8 := (b89.new hX).cells
          have c9 := (b9.new hX).cells
          have rBX := rB X hX
          go_simp
          try rfl
        simp only [Act.put, List.setIfInBounds_toArray, List.set_cons_zero, List.set_cons_succ]
        refine' hw_take 6 (some 71) _ rfl rfl (by kernel_rfl) (by kernel_rfl) (by kernel_rfl) (fun _ _ _ h => h) (by rfl) hH ?hy38 ?rest38
        case hy38 =>
          intro X hX
          have c7 := (b79.new hX).cells
          have c8 := (b89.new hX).cells
          have c9 := (b9.new hX).cells
          have rBX := rB X hX
          go_simp
          try rfl
        simp only [Act.put, List.setIfInBounds_toArray, List.set_cons_zero, List.set_cons_succ]
        refine' hw_take 7 (some 72) _ rfl rfl (by kernel_rfl) (by kernel_rfl) (by kernel_rfl) (fun _ _ _ h => h) (by rfl) hH ?hy39 ?rest39
        case hy39 =>
          intro X hX
          have c7 := (b79.new hX).cells
          have c8 := (b89.new hX).cells
          have c9 := (b9.new hX).cells
          have rBX := rB X hX
          go_simp
          try rfl
        simp only [Act.put, List.setIfInBounds_toArray, List.set_cons_zero, List.set_cons_succ]
        refine' hw_take 8 (some 73) _ rfl rfl (by kernel_rfl) (by kernel_rfl) (by kernel_rfl) (fun _ _ _ h => h) (by rfl) hH ?hy40 ?rest40
        case hy40 =>
          intro X hX
          have c7 := (b79.new hX).cells
          have c8 := (b89.new hX).cells
          have c9 := (b9.new hX).cells
          have rBX := rB X hX
          go_simp
          try rfl
        simp only [Act.put, List.setIfInBounds_toArray, List.set_cons_zero, List.set_cons_succ]
        refine hw_call 9 (some 74) rfl rfl (by kernel_rfl) (by rfl) (fun K hK => ?_)
        go_simp
        go_at_call 12
        refine (implSA oU nxU mdU lcU oU nxU mdU lcU xa9 xaU xm xm xc9 xcU xsU xsU true _ (qn9.new hH) (pn9.new hH) HX.out HX.out (by omega) (by omega) HSA).mono ?_
        rintro e w10 ⟨rfl, hn10⟩
        refine hK.out _ _ (hH.trans hn10) (fun hH => ?_)
        simp only [Act.put, List.setIfInBounds_toArray, List.set_cons_zero, List.set_cons_succ]
        refine' hw_take 10 (some 75) _ rfl rfl (by kernel_rfl) (by kernel_rfl) (by kernel_rfl) (fun _ _ _ h => h) (by rfl) hH ?hy41 ?rest41
        case hy41 =>
          intro X hX
          have c7 := (b79.new hX).cells
          have c8 := (b89.new hX).cells
          have c9 := (b9.new hX).cells
          have rBX := rB X hX
          go_simp
          try rfl
        simp only [Act.put, List.setIfInBounds_toArray, List.set_cons_zero, List.set_cons_succ]
        refine' hw_take 11 (some 76) _ rfl rfl (by kernel_rfl) (by kernel_rfl) (by kernel_rfl) (fun _ _ _ h => h) (by rfl) hH ?hy42 ?rest42
        case hy42 =>
          intro X hX
          have c7 := (b79.new hX).cells
          have c8 := (b89.new hX).cells
          have c9 := (b9.new hX).cells
          have rBX := rB X hX
          go_simp
          try rfl
        simp only [Act.put, List.setIfInBounds_toArray, List.set_cons_zero, List.set_cons_succ]
        refine' hw_take 12 (some 77) _ rfl rfl (by kernel_rfl) (by kernel_rfl) (by kernel_rfl) (fun _ _ _ h => h) (by rfl) hH ?hy43 ?rest43
        case hy43 =>
          intro X hX
          have c7 := (b79.new hX).cells
          have c8 := (b89.new hX).cells
          have c9 := (b9.new hX).cells
          have rBX := rB X hX
          go_simp
          try rfl
        simp only [Act.put, List.setIfInBounds_toArray, List.set_cons_zero, List.set_cons_succ]
        refine' hw_take 13 (some 78) _ rfl rfl (by kernel_rfl) (by kernel_rfl) (by kernel_rfl) (fun _ _ _ h => h) (by rfl) hH ?hy44 ?rest44
        case hy44 =>
          intro X hX
          have c7 := (b79.new hX).cells
          have c8 := (b89.new hX).cells
          have c9 := (b9.new hX).cells
          have rBX := rB X hX
          go_simp
          try rfl
        simp only [Act.put, List.setIfInBounds_toArray, List.set_cons_zero, List.set_cons_succ]
        refine' hw_take 14 (some 79) _ rfl rfl (by kernel_rfl) (by kernel_rfl) (by kernel_rfl) (fun _ _ _ h => h) (by rfl) hH ?hy45 ?rest45
        case hy45 =>
          intro X hX
          have c7 := (b79.new hX).cells
          have c8 := (b89.new hX).cells
          have c9 := (b9.new hX).cells
          have rBX := rB X hX
          go_simp
          try rfl
        simp only [Act.put, List.setIfInBounds_toArray, List.set_cons_zero, List.set_cons_succ]
        refine' hw_take 15 (some 80) _ rfl rfl (by kernel_rfl) (by kernel_rfl) (by kernel_rfl) (fun _ _ _ h => h) (by rfl) hH ?hy46 ?rest46
        case hy46 =>
          intro X hX
          have c7 := (b79.new hX).cells
          have c8 := (b89.new hX).cells
          have c9 := (b9.new hX).cells
          have rBX := rB X hX
          go_simp
          try rfl
        simp only [Act.put, List.setIfInBounds_toArray, List.set_cons_zero, List.set_cons_succ]
        refine' hw_take 16 (some 81) _ rfl rfl (by kernel_rfl) (by kernel_rfl) (by kernel_rfl) (fun _ _ _ h => h) (by rfl) hH ?hy47 ?rest47
        case hy47 =>
          intro X hX
          have c7 := (b79.new hX).cells
          have c8 := (b89.new hX).cells
          have c9 := (b9.new hX).cells
          have rBX := rB X hX
          go_simp
          try rfl
        simp only [Act.put, List.setIfInBounds_toArray, List.set_cons_zero, List.set_cons_succ]
        refine' hw_take 17 (some 82) _ rfl rfl (by kernel_rfl) (by kernel_rfl) (by kernel_rfl) (fun _ _ _ h => h) (by rfl) hH ?hy48 ?rest48
        case hy48 =>
          intro X hX
          have c7 := (b79.new hX).cells
          have c8 := (b89.new hX).cells
          have c9 := (b9.new hX).cells
          have rBX := rB X hX
          go_simp
          try rfl
        simp only [Act.put, List.setIfInBounds_toArray, List.set_cons_zero, List.set_cons_succ]
        refine' hw_take 18 (some 83) _ rfl rfl (by kernel_rfl) (by kernel_rfl) (by kernel_rfl) (fun _ _ _ h => h) (by rfl) hH ?hy49 ?rest49
        case hy49 =>
          intro X hX
          have c7 := (b79.new hX).cells
          have c8 := (b89.new hX).cells
          have c9 := (b9.new hX).cells
          have rBX := rB X hX
          go_simp
          try rfl
        simp only [Act.put, List.setIfInBounds_toArray, List.set_cons_zero, List.set_cons_succ]
        refine' hw_take 19 (some 84) _ rfl rfl (by kernel_rfl) (by kernel_rfl) (by kernel_rfl) (fun _ _ _ h => h) (by rfl) hH ?hy50 ?rest50
        case hy50 =>
          intro X hX
          have c7 := (b79.new hX).cells
          have c8 := (b89.new hX).cells
          have c9 := (b9.new hX).cells
          have rBX := rB X hX
          go_simp
          try rfl
        simp only [Act.put, List.setIfInBounds_toArray, List.set_cons_zero, List.set_cons_succ]
        refine' hw_take 20 (some 85) _ rfl rfl (by kernel_rfl) (by kernel_rfl) (by kernel_rfl) (fun _ _ _ h => h) (by rfl) hH ?hy51 ?rest51
        case hy51 =>
          intro X hX
          have c7 := (b79.new hX).cells
          have c8 := (b89.new hX).cells
          have c9 := (b9.new hX).cells
          have rBX := rB X hX
          go_simp
          try rfl
        simp only [Act.put, List.setIfInBounds_toArray, List.set_cons_zero, List.set_cons_succ]
        refine' hw_take 21 (some 86) _ rfl rfl (by kernel_rfl) (by kernel_rfl) (by kernel_rfl) (fun _ _ _ h => h) (by rfl) hH ?hy52 ?rest52
        case hy52 =>
          intro X hX
          have c7 := (b79.new hX).cells
          have c8 := (b89.new hX).cells
          have c9 := (b9.new hX).cells
          have rBX := rB X hX
          go_simp
          try rfl
        simp only [Act.put, List.setIfInBounds_toArray, List.set_cons_zero, List.set_cons_succ]
        refine' hw_take 22 (some 87) _ rfl rfl (by kernel_rfl) (by kernel_rfl) (by kernel_rfl) (fun _ _ _ h => h) (by rfl) hH ?hy53 ?rest53
        case hy53 =>
          intro X hX
          have c7 := (b79.new hX).cells
          have c8 := (b89.new hX).cells
          have c9 := (b9.new hX).cells
          have rBX := rB X hX
          go_simp
          try rfl
        simp only [Act.put, List.setIfInBounds_toArray, List.set_cons_zero, List.set_cons_succ]
        refine' hw_take 23 (some 88) _ rfl rfl (by kernel_rfl) (by kernel_rfl) (by kernel_rfl) (fun _ _ _ h => h) (by rfl) hH ?hy54 ?rest54
        case hy54 =>
          intro X hX
          have c7 := (b79.new hX).cells
          have c8 := (b89.new hX).cells
          have c9 := (b9.new hX).cells
          have rBX := rB X hX
          go_simp
          try rfl
        simp only [Act.put, List.setIfInBounds_toArray, List.set_cons_zero, List.set_cons_succ]
        refine' hw_take 24 (some 89) _ rfl rfl (by kernel_rfl) (by kernel_rfl) (by kernel_rfl) (fun _ _ _ h => h) (by rfl) hH ?hy55 ?rest55
        case hy55 =>
          intro X hX
          have c7 := (b79.new hX).cells
          have c8 := (b89.new hX).cells
          have c9 := (b9.new hX).cells
          have rBX := rB X hX
          go_simp
          try rfl
        simp only [Act.put, List.setIfInBounds_toArray, List.set_cons_zero, List.set_cons_succ]
        refine' hw_take 25 (some 90) _ rfl rfl (by kernel_rfl) (by kernel_rfl) (by kernel_rfl) (fun _ _ _ h => h) (by rfl) hH ?hy56 ?rest56
        case hy56 =>
          intro X hX
          have c7 := (b79.new hX).cells
          have c8 := (b89.new hX).cells
          have c9 := (b9.new hX).cells
          have rBX := rB X hX
          go_simp
          try rfl
        simp only [Act.put, List.setIfInBounds_toArray, List.set_cons_zero, List.set_cons_succ]
        refine' hw_take 26 (some 91) _ rfl rfl (by kernel_rfl) (by kernel_rfl) (by kernel_rfl) (fun _ _ _ h => h) (by rfl) hH ?hy57 ?rest57
        case hy57 =>
          intro X hX
          have c7 := (b79.new hX).cells
          have c8 := (b89.new hX).cells
          have c9 := (b9.new hX).cells
          have rBX := rB X hX
          go_simp
          try rfl
        simp only [Act.put, List.setIfInBounds_toArray, List.set_cons_zero, List.set_cons_succ]
        refine' hw_take 27 (some 92) _ rfl rfl (by kernel_rfl) (by kernel_rfl) (by kernel_rfl) (fun _ _ _ h => h) (by rfl) hH ?hy58 ?rest58
        case hy58 =>
          intro X hX
          have c7 := (b79.new hX).cells
          have c8 := (b89.new hX).cells
          have c9 := (b9.new hX).cells
          have rBX := rB X hX
          go_simp
          try rfl
        simp only [Act.put, List.setIfInBounds_toArray, List.set_cons_zero, List.set_cons_succ]
        refine' hw_take 28 (some 93) _ rfl rfl (by kernel_rfl) (by kernel_rfl) (by kernel_rfl) (fun _ _ _ h => h) (by rfl) hH ?hy59 ?rest59
        case hy59 =>
          intro X hX
          have c7 := (b79.new hX).cells
          have c8 := (b89.new hX).cells
          have c9 := (b9.new hX).cells
          have rBX := rB X hX
          go_simp
          try rfl
        simp only [Act.put, List.setIfInBounds_toArray, List.set_cons_zero, List.set_cons_succ]
        refine' hw_take 29 (some 94) _ rfl rfl (by kernel_rfl) (by kernel_rfl) (by kernel_rfl) (fun _ _ _ h => h) (by rfl) hH ?hy60 ?rest60
        case hy60 =>
          intro X hX
          have c7 := (b79.new hX).cells
          have c8 := (b89.new hX).cells
          have c9 := (b9.new hX).cells
          have rBX := rB X hX
          go_simp
          try rfl
        simp only [Act.put, List.setIfInBounds_toArray, List.set_cons_zero, List.set_cons_succ]
        refine' hw_take 30 (some 95) _ rfl rfl (by kernel_rfl) (by kernel_rfl) (by kernel_rfl) (fun _ _ _ h => h) (by rfl) hH ?hy61 ?rest61
        case hy61 =>
          intro X hX
          have c7 := (b79.new hX).cells
          have c8 := (b89.new hX).cells
          have c9 := (b9.new hX).cells
          have rBX := rB X hX
          go_simp
          try rfl
        simp only [Act.put, List.setIfInBounds_toArray, List.set_cons_zero, List.set_cons_succ]
        refine' hw_take 31 (some 96) _ rfl rfl (by kernel_rfl) (by kernel_rfl) (by kernel_rfl) (fun _ _ _ h => h) (by rfl) hH ?hy62 ?rest62
        case hy62 =>
          intro X hX
          have c7 := (b79.new hX).cells
          have c8 := (b89.new hX).cells
          have c9 := (b9.new hX).cells
          have rBX := rB X hX
          go_simp
          try rfl
        simp only [Act.put, List.setIfInBounds_toArray, List.set_cons_zero, List.set_cons_succ]
        refine' hw_take 32 (some 97) _ rfl rfl (by kernel_rfl) (by kernel_rfl) (by kernel_rfl) (fun _ _ _ h => h) (by rfl) hH ?hy63 ?rest63
        case hy63 =>
          intro X hX
          have c7 := (b79.new hX).cells
          have c8 := (b89.new hX).cells
          have c9 := (b9.new hX).cells
          have rBX := rB X hX
          go_simp
          try rfl
        simp only [Act.put, List.setIfInBounds_toArray, List.set_cons_zero, List.set_cons_succ]
        refine' hw_take 33 (some 98) _ rfl rfl (by kernel_rfl) (by kernel_rfl) (by kernel_rfl) (fun _ _ _ h => h) (by rfl) hH ?hy64 ?rest64
        case hy64 =>
          intro X hX
          have c7 := (b79.new hX).cells
          have c8 := (b89.new hX).cells
          have c9 := (b9.new hX).cells
          have rBX := rB X hX
          go_simp
          try rfl
        simp only [Act.put, List.setIfInBounds_toArray, List.set_cons_zero, List.set_cons_succ]
        refine' hw_take 34 (some 99) _ rfl rfl (by kernel_rfl) (by kernel_rfl) (by kernel_rfl) (fun _ _ _ h => h) (by rfl) hH ?hy65 ?rest65
        case hy65 =>
          intro X hX
          have c7 := (b79.new hX).cells
          have c8 := (b89.new hX).cells
          have c9 := (b9.new hX).cells
          have rBX := rB X hX
          go_simp
          try rfl
        simp only [Act.put, List.setIfInBounds_toArray, List.set_cons_zero, List.set_cons_succ]
        refine' hw_take 35 (some 100) _ rfl rfl (by kernel_rfl) (by kernel_rfl) (by kernel_rfl) (fun _ _ _ h => h) (by rfl) hH ?hy66 ?rest66
        case hy66 =>
          intro X hX
          have c7 := (b79.new hX).cells
          have c8 := (b89.new hX).cells
          have c9 := (b9.new hX).cells
          have rBX := rB X hX
          go_simp
          try rfl
        simp only [Act.put, List.setIfInBounds_toArray, List.set_cons_zero, List.set_cons_succ]
        refine' hw_take 36 (some 101) _ rfl rfl (by kernel_rfl) (by kernel_rfl) (by kernel_rfl) (fun _ _ _ h => h) (by rfl) hH ?hy67 ?rest67
        case hy67 =>
          intro X hX
          have c7 := (b79.new hX).cells
          have c8 := (b89.new hX).cells
          have c9 := (b9.new hX).cells
          have rBX := rB X hX
          go_simp
          try rfl
        simp only [Act.put, List.setIfInBounds_toArray, List.set_cons_zero, List.set_cons_succ]
        refine' hw_take 37 (some 102) _ rfl rfl (by kernel_rfl) (by kernel_rfl) (by kernel_rfl) (fun _ _ _ h => h) (by rfl) hH ?hy68 ?rest68
        case hy68 =>
          intro X hX
          have c7 := (b79.new hX).cells
          have c8 := (b89.new hX).cells
          have c9 := (b9.new hX).cells
          have rBX := rB X hX
          go_simp
          try rfl
        simp only [Act.put, List.setIfInBounds_toArray, List.set_cons_zero, List.set_cons_succ]
        refine' hw_take 38 (some 103) _ rfl rfl (by kernel_rfl) (by kernel_rfl) (by kernel_rfl) (fun _ _ _ h => h) (by rfl) hH ?hy69 ?rest69
        case hy69 =>
          intro X hX
          have c7 := (b79.new hX).cells
          have c8 := (b89.new hX).cells
          have c9 := (b9.new hX).cells
          have rBX := rB X hX
          go_simp
          try rfl
        simp only [Act.put, List.setIfInBounds_toArray, List.set_cons_zero, List.set_cons_succ]
        refine' hw_take 39 (some 104) _ rfl rfl (by kernel_rfl) (by kernel_rfl) (by kernel_rfl) (fun _ _ _ h => h) (by rfl) hH ?hy70 ?rest70
        case hy70 =>
          intro X hX
          have c7 := (b79.new hX).cells
          have c8 := (b89.new hX).cells
          have c9 := (b9.new hX).cells
          have rBX := rB X hX
          go_simp
          try rfl
        simp only [Act.put, List.setIfInBounds_toArray, List.set_cons_zero, List.set_cons_succ]
        refine' hw_take 40 (some 105) _ rfl rfl (by kernel_rfl) (by kernel_rfl) (by kernel_rfl) (fun _ _ _ h => h) (by rfl) hH ?hy71 ?rest71
        case hy71 =>
          intro X hX
          have c7 := (b79.new hX).cells
          have c8 := (b89.new hX).cells
          have c9 := (b9.new hX).cells
          have rBX := rB X hX
          go_simp
          try rfl
        simp only [Act.put, List.setIfInBounds_toArray, List.set_cons_zero, List.set_cons_succ]
        refine' hw_take 41 (some 106) _ rfl rfl (by kernel_rfl) (by kernel_rfl) (by kernel_rfl) (fun _ _ _ h => h) (by rfl) hH ?hy72 ?rest72
        case hy72 =>
          intro X hX
          have c7 := (b79.new hX).cells
          have c8 := (b89.new hX).cells
          have c9 := (b9.new hX).cells
          have rBX := rB X hX
          go_simp
          try rfl
        simp only [Act.put, List.setIfInBounds_toArray, List.set_cons_zero, List.set_cons_succ]
        refine' hw_take 45 (some 110) _ rfl rfl (by kernel_rfl) (by kernel_rfl) (by kernel_rfl) (fun _ _ _ h => h) (by rfl) hH ?hy73 ?rest73
        case hy73 =>
          intro X hX
          have c7 := (b79.new hX).cells
          have c8 := (b89.new hX).cells
          have c9 := (b9.new hX).cells
          have rBX := rB X hX
          go_simp
          try rfl
        simp only [Act.put, List.setIfInBounds_toArray, List.set_cons_zero, List.set_cons_succ]
        refine' hw_take 46 (some 111) _ rfl rfl (by kernel_rfl) (by kernel_rfl) (by kernel_rfl) (fun _ _ _ h => h) (by rfl) hH ?hy74 ?rest74
        case hy74 =>
          intro X hX
          have c7 := (b79.new hX).cells
          have c8 := (b89.new hX).cells
          have c9 := (b9.new hX).cells
          have rBX := rB X hX
          go_simp
          try rfl
        simp only [Act.put, List.setIfInBounds_toArray, List.set_cons_zero, List.set_cons_succ]
        refine' hw_take 47 (some 112) _ rfl rfl (by kernel_rfl) (by kernel_rfl) (by kernel_rfl) (fun _ _ _ h => h) (by rfl) hH ?hy75 ?rest75
        case hy75 =>
          intro X hX
          have c7 := (b79.new hX).cells
          have c8 := (b89.new hX).cells
          have c9 := (b9.new hX).cells
          have rBX := rB X hX
          go_simp
          try rfl
        simp only [Act.put, List.setIfInBounds_toArray, List.set_cons_zero, List.set_cons_succ]
        refine hw_call 42 (some 107) rfl rfl (by kernel_rfl) (by rfl) (fun K hK => ?_)
        go_simp
        go_at_call 8
        refine (implPU ga9 xa9 ra9 gm gc9 xm xc9 rm rc9 hasU oU nxU mdU lcU gsU rsU xsU _ (qg9.new hH) (qn9.new hH) (qr9.new hH) HG.out HX.out HR.out (by omega) (by omega) (by omega)).mono ?_
        rintro e w11 ⟨a11, m11, cap11, ys11, rfl, ho11, hys11, hp11, hn11, HY11, hnil11, hm11⟩
        rw [HUQ.out]
        have hY11 : ys11 = ys8 := by rw [HY11, if_pos HUQ.out]; exact HY.out.symm
        have r11 : ∀ X, New w11 X → (convert 22 9 (.slice a11 m11 cap11)).run Try.prog X = .ok (.string (strU ys8)) X := fun X hX => by rw [← hY11]; exact run_strU a11 m11 cap11 ys11 X ((ho11.bs hys11).new hX) ho11.1 hnil11
        clear hY11 HY11 hys11 ho11 hp11 hnil11
        refine hK.out _ _ (hH.trans hn11) (fun hH => ?_)
        refine wpAnyH_more (S' := fun X => New W9 X ∧ New w11 X) (fun _ h => h.1) _ _ _ _ ?_
        have hH2 : New W9 w11 ∧ New w11 w11 := ⟨hH, New.refl _⟩
        simp only [Act.put, List.setIfInBounds_toArray, List.set_cons_zero, List.set_cons_succ]
        refine' hw_take 43 (some 108) _ rfl rfl (by kernel_rfl) (by kernel_rfl) (by kernel_rfl) (fun _ _ _ h => h) (by rfl) hH2 ?hy76 ?rest76
        case hy76 =>
          intro X hX
          have c7 := (b79.new hX.1).cells
          have c8 := (b89.new hX.1).cells
          have c9 := (b9.new hX.1).cells
          have rBX := rB X hX.1
          have r11X := r11 X hX.2
          go_simp
          try rfl
        simp only [Act.put, List.setIfInBounds_toArray, List.set_cons_zero, List.set_cons_succ]
        refine' hw_take 44 (some 109) _ rfl rfl (by kernel_rfl) (by kernel_rfl) (by kernel_rfl) (fun _ _ _ h => h) (by rfl) hH2 ?hy77 ?rest77
        case hy77 =>
          intro X hX
          have c7 := (b79.new hX.1).cells
          have c8 := (b89.new hX.1).cells
          have c9 := (b9.new hX.1).cells
          have rBX := rB X hX.1
          have r11X := r11 X hX.2
          go_simp
          try rfl
        simp only [Act.put, List.setIfInBounds_toArray, List.set_cons_zero, List.set_cons_succ]
        refine' hw_take 48 (some 113) _ rfl rfl (by kernel_rfl) (by kernel_rfl) (by kernel_rfl) (fun _ _ _ h => h) (by rfl) hH2 ?hy78 ?rest78
        case hy78 =>
          intro X hX
          have c7 := (b79.new hX.1).cells
          have c8 := (b89.new hX.1).cells
          have c9 := (b9.new hX.1).cells
          have rBX := rB X hX.1
          have r11X := r11 X hX.2
          go_simp
          try rfl
        simp only [Act.put, List.setIfInBounds_toArray, List.set_cons_zero, List.set_cons_succ]
        refine' hw_take 49 (some 114) _ rfl rfl (by kernel_rfl) (by kernel_rfl) (by kernel_rfl) (fun _ _ _ h => h) (by rfl) hH2 ?hy79 ?rest79
        case hy79 =>
          intro X hX
          have c7 := (b79.new hX.1).cells
          have c8 := (b89.new hX.1).cells
          have c9 := (b9.new hX.1).cells
          have rBX := rB X hX.1
          have r11X := r11 X hX.2
          go_simp
          try rfl
        simp only [Act.put, List.setIfInBounds_toArray, List.set_cons_zero, List.set_cons_succ]
        refine' hw_take 50 (some 2) _ rfl rfl (by kernel_rfl) (by kernel_rfl) (by kernel_rfl) (fun _ _ _ h => h) (by rfl) hH2 ?hy80 ?rest80
        case hy80 =>
          intro X hX
          have c7 := (b79.new hX.1).cells
          have c8 := (b89.new hX.1).cells
          have c9 := (b9.new hX.1).cells
          have rBX := rB X hX.1
          have r11X := r11 X hX.2
          go_simp
          try rfl
        simp only [Act.put, List.setIfInBounds_toArray, List.set_cons_zero, List.set_cons_succ]
        refine wpAnyH_done (by kernel_rfl) ?_ _
        go_wp2
        go_ret
        exact ⟨rfl, N9.trans hH2.1⟩
      · have hub : (uq != 0) = true := by simpa using hu
        have huu : (uq == uq) = true := by simp
        have c7r := blk_regrown b78
        have c8r := blk_regrown b8
        go_upto_region 11 with fail
        refine wp_region_quiet_below (by kernel_rfl) (by kernel_rfl) ?_
        repeat (go_big_quiet_step ((go_at_call 11; exact calls_regrown (specUF_is gaU xaU raU gm gcU xm xcU rm rcU hasU oU nxU mdU lcU gsU rsU xsU uq _ (pg8.new (new_regrown _ _ _)) (pn8.new (new_regrown _ _ _)) (pr8.new (new_regrown _ _ _)) HG.out HX.out HR.out (by omega) (by omega) (by omega) HUQ.out))))
        refine wpQuiet_nil ?_
        rintro w12 hn12
        replace hn12 := new_of_regrown hn12
        go_wp2
        go_ret
        exact ⟨rfl, N8.trans hn12⟩

set_option maxRecDepth 100000 in
theorem fup_lifted (os : Os) (started : os.Started) (H : Type) (enc : TypeId × Value → H) :
    ReturnsInHanded {} Try.checked os 3 .any (Rows.fnUpdatesSpec.pre6 enc Try.prog Try.f3 Rows.fnUpdatesRow.domain false) (Rows.fnUpdatesSpec.post enc Try.prog Try.f3 false true false false) := by
  refine returnsInHanded_of_change (C := Try.checked) own started (by kernel_rfl) Try.func3
    (ChangeSpec.witness6 (enc := enc) (C := Try.checked) false ⟨#[], #[.slice none 0 0], []⟩ 8 (by kernel_rfl) (by kernel_rfl) (by kernel_rfl) (by kernel_rfl)) ?_
  intro W base args ds gs before hval0 hW hcnd _
  have hval : ∀ (j : Nat) t v, Try.f3.params[j]? = some t → args[j]? = some v → Value.okWide Try.prog W .any base t v := hval0
  have hW' := hW
  obtain ⟨p, q, hA0, hV, rfl, hfz, hnd⟩ := hW
  have hA : DataW.TrodAll enc Try.prog W 0 (fun _ => true) true Try.f3.params.toList args.toList ds p := hA0
  rw [Try.params3] at hA hval
  obtain ⟨v0, vs0, d0, ds0, p0, q0, hargs, rfl, rfl, h0, r0⟩ := trodAll_cons hA
  obtain ⟨rfl, rfl, rfl⟩ := trodAll_nil r0
  obtain rfl : args = #[v0] := by cases args; simp_all
  obtain ⟨rfl, rfl⟩ := trodVars_none hV
  have k0 := h0
  have lt0 : ∀ x ∈ p0, x.block < W.heap.size := by obtain ⟨m, hm⟩ := k0; exact DataW.trod_lt m _ _ _ hm
  obtain ⟨a0, len0, cap0, rfl⟩ := okWide_slice Try.underlying22 (hval 0 22 v0 rfl rfl)
  obtain ⟨z0, b0, e0, m0⟩ := open_bytes h0
  clear hA0 hval0
  refine (fup_walk a0 len0 cap0 z0 W b0 e0 m0.2).mono fun e W' ⟨he, new⟩ => ?_
  have bel := new.below
  subst he
  exact ⟨_, rfl, _, _, _, [], _, [], hW', trodAll_mk1 (shut_bool Try.underlying4 _), (trodAll_cons_mk (Below.trod laidOut (by kernel_rfl) (of_decide_eq_true (by kernel_rfl)) k0 bel lt0) trodAll_mk0), rfl, bel.frame _, fun h => by cases h⟩

theorem fup_holds : Rows.FnUpdatesSaid :=
  OpenClaim.holds_of_wide 3 Try.f3 rfl rfl rfl rfl rfl rfl rfl ⟨rfl, rfl, rfl, rfl, rfl⟩ rfl rfl rfl rfl rfl (by kernel_rfl) Try.func3 (by kernel_rfl)
    (of_decide_eq_true (by kernel_rfl)) (by unfold Func.isWrapper; first | (rw [if_pos (by decide +kernel)]; kernel_rfl) | (rw [if_neg (by decide +kernel)]; exact ⟨rfl, rfl⟩))
    (fun os started H enc _ => fup_lifted os started H enc)

end Go.Proofs.Ytpamejefnegjhaa
