/- What is proved here: what the program's oneActive answers What is proved here: how structs that lie in blocks are loaded and stored, whole, in a region that draws its order. No condition. What is proved here: what the model's l15One answers What is proved here: what the model's judging of a node answers where the node is the first of a row of two, for every log of at most 1048576 entries and bytes. No other condition. -/
import Derived.Test.YtkbdmcimgepakaaGreatPS2
import Derived.Test.YtkbdmcimgepakaaGreatBytes
import Derived.Deep.RegionHeld3
import Derived.Laws.Tables
import Derived.Laws.Rows
import Derived.Test.YtkbdmcimgepakaaGreatK12Ng
namespace Go.Proofs.YtkbdmcimgepakaaGreat
open Go.RowKit Go.Sort Go.Deep
set_option linter.unusedVariables false
set_option linter.unusedSimpArgs false

/-- The wires gone through: none where one has a lesser epoch. -/
def owF (ep : Int) : Bool → List (Int × Int × List Int × List Int) → Option Bool
  | b, [] => some b
  | b, x :: L => if x.1 < ep then none else owF ep (b && decide (ep = x.1)) L
theorem owF_at {ep : Int} {b : Bool} {L : List (Int × Int × List Int × List Int)} {k : Nat} {x : Int × Int × List Int × List Int} (h : L[k]? = some x) : owF ep b (L.drop k) = if x.1 < ep then none else owF ep (b && decide (ep = x.1)) (L.drop (k + 1)) := by
  obtain ⟨hk, e⟩ := List.getElem?_eq_some_iff.1 h
  rw [List.drop_eq_getElem_cons hk, owF, e]
theorem owF_end {ep : Int} {b : Bool} {L : List (Int × Int × List Int × List Int)} {k : Nat} (h : L.length ≤ k) : owF ep b (L.drop k) = some b := by
  rw [List.drop_eq_nil_of_le h]; rfl
def onR (f : Nat → Bool) (n : Nat) (r : Option Bool) : Bool :=
  match r with
  | none => false
  | some b => f (n + (if b then 1 else 0))
/-- One node at most is heard. -/
def onF (W : List (Int × Int × List Int × List Int)) : List (Int × Bool × Int × Int × Int × Int × Int × Int × List Ek) → Nat → Bool
  | [], n => decide (n ≤ 1)
  | x :: L, n => if x.2.2.1 = 1 then onR (onF W L) n (owF x.2.2.2.1 true W) else onF W L n
theorem onF_at {W : List (Int × Int × List Int × List Int)} {n : Nat} {L : List (Int × Bool × Int × Int × Int × Int × Int × Int × List Ek)} {k : Nat} {x : Int × Bool × Int × Int × Int × Int × Int × Int × List Ek} (h : L[k]? = some x) : onF W (L.drop k) n = if x.2.2.1 = 1 then onR (onF W (L.drop (k + 1))) n (owF x.2.2.2.1 true W) else onF W (L.drop (k + 1)) n := by
  obtain ⟨hk, e⟩ := List.getElem?_eq_some_iff.1 h
  rw [List.drop_eq_getElem_cons hk, onF, e]
theorem onF_end {W : List (Int × Int × List Int × List Int)} {n : Nat} {L : List (Int × Bool × Int × Int × Int × Int × Int × Int × List Ek)} {k : Nat} (h : L.length ≤ k) : onF W (L.drop k) n = decide (n ≤ 1) := by
  rw [List.drop_eq_nil_of_le h]; rfl

set_option maxHeartbeats 6400000 in
theorem oneI (sa si ho nx : Int) (a1 a2 aN aW aM aS : Option Addr) (n1 c1 n2 c2 cN cW nM cM nS cS : Nat) (r1 r2 : List Ru) (LN : List NdV) (LW : List WiV) (B : Nat) (w : World) (hb : Blk w B 44 #[.int .i64 sa, .int .i64 si, .int .i64 ho, .int .i64 nx, .slice a1 n1 c1, .slice a2 n2 c2, .slice aN 2 cN, .slice aW 3 cW, .slice aM nM cM, .slice aS nS cS]) (hN : NdAt w aN LN) (hW : WiAt w aW LW) (lN : LN.length = 2) (lW : LW.length = 3) (v : Bool) (hv : onF (LW.map WiV.r) (LN.map NdV.r) 0 = v) :
    Calls Tryz.prog 44 #[.pointer (some ⟨B, 0, none⟩)] w fun e w' => e = .returned (.bool v) ∧ New w w' := by
  have HN : Hid (LN.length = 2) := lN
  have HWl : Hid (LW.length = 3) := lW
  have HF : Hid (onF (LW.map WiV.r) ((LN.map NdV.r).drop 0) 0 = v) := hv
  have cB := hb.cells
  clear hv lN lW
  go_enter Tryz.func44, Tryz.ntmps44
  go_wp2
  go_loopw [14, 3] (fun i c wr => ∃ (k n : Nat), k ≤ 2 ∧ n ≤ k ∧ i = .int .i64 k ∧ c = .int .i64 n ∧ New w wr ∧ Hid (onF (LW.map WiV.r) ((LN.map NdV.r).drop k) n = v)) (fun i _ _ => 2 - (intOf i).toNat)
  case atStart => exact ⟨0, 0, Nat.zero_le _, Nat.le_refl _, rfl, rfl, New.refl _, HF⟩
  case round =>
    obtain ⟨k, n, hk, hnk, rfl, rfl, hnw, hL⟩ := hrel
    by_cases hlt : k < 2
    · obtain ⟨g, id, up, ro, ep, su, ma, ot, co, x, m, d, xs, hg, hv, hl, hx, hmx, q0, q1, q2, q3, q4, q5, q6, q7, q8⟩ := (hN.new hnw).at k (by have := HN.out; omega)
      subst hg
      have HD : Hid ((if ro = 1 then onR (onF (LW.map WiV.r) ((LN.map NdV.r).drop (k + 1))) n (owF ep true (LW.map WiV.r)) else onF (LW.map WiV.r) ((LN.map NdV.r).drop (k + 1)) n) = v) := by
        unfold Hid
        have h1 := onF_at (W := (LW.map WiV.r)) (n := n) (x := (id, up, ro, ep, su, ma, ot, co, xs.map EkV.r)) (L := (LN.map NdV.r)) (k := k) (by rw [List.getElem?_map, hv]; rfl)
        have h2 := hL.out
        rw [h1] at h2
        exact h2
      have al := (New.refl wr).alloc (.cells #[.int .i64 id, .bool up, .int .i64 ro, .int .i64 ep, .slice x m d, .int .i64 su, .int .i64 ma, .int .i64 ot, .int .i64 co] 98)
      have bx := Blk.mk wr wr.heap.size 98 #[.int .i64 id, .bool up, .int .i64 ro, .int .i64 ep, .slice x m d, .int .i64 su, .int .i64 ma, .int .i64 ot, .int .i64 co] rfl
      have hb1 := (hb.new hnw).new al
      have hnw1 := hnw.trans al
      clear hv hl hL cB hmx hx
      by_cases hr : ro = 1
      case neg =>
        have HR : Hid (onF (LW.map WiV.r) ((LN.map NdV.r).drop (k + 1)) n = v) := by have := HD.out; rw [if_neg hr] at this; exact this
        clear HD
        go_wp2_with fail
        refine (active_no wr.heap.size id up ro ep su ma ot co x m d _ bx hr).mono ?_
        rintro e wz ⟨rfl, hwz⟩
        obtain rfl := hwz.symm
        go_wp2
        go_roundw
        case rel => exact ⟨k + 1, n, by omega, by omega, by go_num, rfl, hnw1, HR⟩
        case measure => simp [intOf]; omega
      subst hr
      have HR : Hid (onR (onF (LW.map WiV.r) ((LN.map NdV.r).drop (k + 1))) n (owF ep true ((LW.map WiV.r).drop 0)) = v) := by have := HD.out; rw [if_pos rfl] at this; exact this
      clear HD
      go_wp2_with fail
      refine (active_yes wr.heap.size id up ep su ma ot co x m d _ bx).mono ?_
      rintro e wz ⟨rfl, hwz⟩
      obtain rfl := hwz.symm
      clear q0 q1 q2 q3 q4 q5 q6 q7 q8
      have cB1 := hb1.cells
      generalize hwa : wr.alloc (.cells #[.int .i64 id, .bool up, .int .i64 1, .int .i64 ep, .slice x m d, .int .i64 su, .int .i64 ma, .int .i64 ot, .int .i64 co] 98) = wa at *
      clear hwa
      go_wp2
      go_loopw [25, 6] (fun j ev wi => ∃ (i : Nat) (b : Bool), i ≤ 3 ∧ j = .int .i64 i ∧ ev = .int .i64 (if b then 1 else 0) ∧ New wa wi ∧ Hid (onR (onF (LW.map WiV.r) ((LN.map NdV.r).drop (k + 1))) n (owF ep b ((LW.map WiV.r).drop i)) = v)) (fun j _ _ => 3 - (intOf j).toNat)
      case atStart => exact ⟨0, true, Nat.zero_le _, rfl, rfl, New.refl _, HR⟩
      case round =>
        obtain ⟨i, b, hi, rfl, rfl, hni, hL2⟩ := hrel
        have hnw2 := hnw1.trans hni
        have bx2 := bx.new hni
        by_cases hlt2 : i < 3
        · obtain ⟨g2, E, T, y, y2, q, f, q2, f2, ys, zs, hg2, hv2, hl1, hl2, hx1, hx2, hmx, hmx2, q0, q1, q2', q3⟩ := (hW.new hnw2).at i (by have := HWl.out; omega)
          subst hg2
          have HD2 : Hid (onR (onF (LW.map WiV.r) ((LN.map NdV.r).drop (k + 1))) n (if E < ep then none else owF ep (b && decide (ep = E)) ((LW.map WiV.r).drop (i + 1))) = v) := by
            unfold Hid
            have h1 := owF_at (ep := ep) (b := b) (x := (E, T, ys, zs)) (L := (LW.map WiV.r)) (k := i) (by rw [List.getElem?_map, hv2]; rfl)
            have h2 := hL2.out
            rw [h1] at h2
            exact h2
          have al2 := (New.refl wr).alloc (.cells #[.int .i64 E, .slice y q f, .int .i64 T, .slice y2 q2 f2] 91)
          have by2 := Blk.mk wr wr.heap.size 91 #[.int .i64 E, .slice y q f, .int .i64 T, .slice y2 q2 f2] rfl
          have bx3 := bx2.new al2
          have cx3 := bx3.cells
          have cy3 := by2.cells
          have hni2 := hni.trans al2
          clear hv2 hl1 hl2 hL2 hx1 hx2 hmx hmx2 cB1
          by_cases h1 : E < ep
          · have HR2 : Hid (false = v) := by have := HD2.out; rw [if_pos h1] at this; exact this
            have d1 : decide (E < ep) = true := by simpa using h1
            clear HD2
            go_wp2
            all_goals (go_ret; exact ⟨ret_bool HR2.out, hnw1.trans hni2⟩)
          have d1 : decide (E < ep) = false := by simpa using h1
          have HR2 : Hid (onR (onF (LW.map WiV.r) ((LN.map NdV.r).drop (k + 1))) n (owF ep (b && decide (ep = E)) ((LW.map WiV.r).drop (i + 1))) = v) := by have := HD2.out; rw [if_neg h1] at this; exact this
          clear HD2
          by_cases h2 : ep < E
          · have d2 : decide (ep < E) = true := by simpa using h2
            have e3 : (b && decide (ep = E)) = false := by have : ¬ ep = E := by omega
                                                           simp [this]
            rw [e3] at HR2
            clear e3
            go_wp2
            go_roundw
            case rel => exact ⟨i + 1, false, by omega, by go_num, rfl, hni2, HR2⟩
            case measure => simp [intOf]; omega
          · have d2 : decide (ep < E) = false := by simpa using h2
            have e3 : (b && decide (ep = E)) = b := by have : ep = E := by omega
                                                       simp [this]
            rw [e3] at HR2
            clear e3
            go_wp2
            go_roundw
            case rel => exact ⟨i + 1, b, by omega, by go_num, rfl, hni2, HR2⟩
            case measure => simp [intOf]; omega
        · have HR2 : Hid (onF (LW.map WiV.r) ((LN.map NdV.r).drop (k + 1)) (n + (if b then 1 else 0)) = v) := by
            unfold Hid
            have := hL2.out
            rw [owF_end (by have := HWl.out; simp; omega)] at this
            exact this
          clear hL2
          cases b with
          | true =>
            go_wp2
            go_roundw
            case rel => exact ⟨k + 1, n + 1, by omega, by omega, by go_num, by go_num, hnw2, HR2⟩
            case measure => simp [intOf]; omega
          | false =>
            go_wp2
            go_roundw
            case rel => exact ⟨k + 1, n, by omega, by omega, by go_num, by go_num, hnw2, HR2⟩
            case measure => simp [intOf]; omega
    · have HR : Hid (decide (n ≤ 1) = v) := by unfold Hid; rw [← hL.out, onF_end (by have := HN.out; simp; omega)]
      clear hL
      go_wp2
      go_ret
      refine ⟨?_, hnw⟩
      rw [← HR.out]
      congr 2
      simp
      omega

end Go.Proofs.YtkbdmcimgepakaaGreat

namespace Go.Proofs.YtkbdmcimgepakaaGreat
open Go.RowKit

theorem Turn.rowW {a w : World} {B : Nat} {S : Nat → Prop} (h : Turn S a w) (hS : S B) (cs : Array Value) : Turn S a (w.setRow B cs) :=
  ⟨h.os, h.tape, h.output, by simpa [World.setRow] using h.size, fun k hk hs => (setRow_other w B k cs (fun e => hs (e ▸ hS))).trans (h.block k hk hs)⟩
theorem Blk.rowW {w : World} {B : Nat} {t : TypeId} {old : Array Value} (h : Blk w B t old) (cs : Array Value) : Blk (w.setRow B cs) B t cs := setRow_heap w B old cs t (0, 0) h
theorem Blk.rowO {w : World} {B C : Nat} {t : TypeId} {cs : Array Value} (h : Blk w C t cs) (hne : ¬ C = B) (ds : Array Value) : Blk (w.setRow B ds) C t cs := (setRow_other w B C ds hne).trans h
theorem Turn.drewW {S : Nat → Prop} {a w : World} (h : Turn S a w) : Turn S a w.drew := ⟨h.os, h.tape, h.output, h.size, h.block⟩

/-- A struct that lies in a block is loaded, whole, wherever the block is known. -/
theorem yields_load_blk {P : Program} {ops : Array Oper} {S : World → Prop} {op : Oper} {a : Act} (hw : Region.wanted op (yielded ops a.tmps) = true) (ty : TypeId) (x : Operand) (ho : op.op = .load ty x)
    (B : Nat) (hx : a.eval x = .pointer (some ⟨B, 0, none⟩)) (cs : Array Value) (d : TypeDesc) (hS : ∀ w, S w → Blk w B ty cs)
    (hu : P.underlying ty = some d) (hd : (match d with | .struct _ | .array _ _ => true | _ => false) = true) (hi : (P.info? ty).map (·.size) = some cs.size) : YieldsIf P ops S op (.agg cs) a :=
  .inl ⟨hw, fun w hw' => by
    unfold execOp
    simp only [ho, hx, Instr.loadAt, Instr.sureAddr, Sem.run_bind, Sem.run_pure, Result.andThen_ok, run_loadVar_row w B ty ty cs (0, 0) d (hS w hw') hu hd hi]⟩

/-- What is walked under more is walked under less. -/
theorem wpAnyH_more {P : Program} {md : Region.Mode} {ops : Array Oper} {Q : Exit → Act → World → Prop} {S S' : World → Prop} (hs : ∀ w, S' w → S w) : ∀ (fuel : Nat) (listed : Array Bool) (a : Act) (w : World), wpAnyH P md ops Q S' fuel listed a w → wpAnyH P md ops Q S fuel listed a w
  | 0, _, _, _, h => h
  | fuel + 1, _, _, _, h => ⟨h.1, fun i hi => wpOp_mono (fun a' w' h3 => ⟨hs _ h3.1, wpAnyH_more hs fuel _ a' w' h3.2⟩) (h.2 i hi)⟩

/-- A struct that lies in a block is loaded, whole. -/
theorem run_load_blk {P : Program} {op : Oper} {a : Act} {w : World} (ty : TypeId) (x : Operand) (ho : op.op = .load ty x) (B : Nat) (hx : a.eval x = .pointer (some ⟨B, 0, none⟩)) (cs : Array Value) (d : TypeDesc) (hb : Blk w B ty cs)
    (hu : P.underlying ty = some d) (hd : (match d with | .struct _ | .array _ _ => true | _ => false) = true) (hi : (P.info? ty).map (·.size) = some cs.size) : (execOp a.eval op).run P w = .ok (.value (.agg cs)) w := by
  unfold execOp
  simp only [ho, hx, Instr.loadAt, Instr.sureAddr, Sem.run_bind, Sem.run_pure, Result.andThen_ok, run_loadVar_row w B ty ty cs (0, 0) d hb hu hd hi]

section
variable {P : Program} {ops : Array Oper} {Q : Exit → Act → World → Prop} {md : Region.Mode} {S : World → Prop}
/-- The beginning of a walk by hand through a region that draws its order. -/
theorem hw_start {id n : Nat} {a : Act} {w : World} (hn : ops.size = n) (hm : P.follows .mixedOrders = true) (hS : S w.drew) (h : S w.drew → wpAnyH P .any ops Q S n (Array.replicate n false) a w.drew) : (Code.region id ops true).wp P Q a w := by
  subst hn
  exact wp_region_held_drew hm hS h
/-- An operation that only yields is taken first. -/
theorem hw_take {fuel : Nat} {listed : Array Bool} {a : Act} {w : World} (i : Nat) (d : Option Tmp) (v : Value) {oi : Oper} (hi : ops[i]? = some oi) (hd : oi.dst = d)
    (hs : Region.noSelect ops = true) (hf : Region.free md ops listed i = true) (hr : (Region.ready md ops listed).contains i = true)
    (hQ : ∀ c a w, Q (.panic c) (a.put d v) w → Q (.panic c) a w) (hw : Region.wanted oi (yielded ops a.tmps) = true) (hS : S w) (hy : ∀ w, S w → (execOp a.eval oi).run P w = .ok (.value v) w)
    (h : wpAnyH P md ops Q S fuel (listed.setIfInBounds i true) (a.put d v) w) : wpAnyH P md ops Q S (fuel + 1) listed a w := by
  subst hd
  exact wpAnyH_take hi hs hf hr hQ (.inl ⟨hw, hy⟩) hS h
/-- The one operation that may come up is run. -/
theorem hw_call {fuel : Nat} {listed : Array Bool} {a : Act} {w : World} (i : Nat) (d : Option Tmp) {oi : Oper} (hi : ops[i]? = some oi) (hd : oi.dst = d) (hr : Region.ready md ops listed = [i]) (hw : Region.wanted oi (yielded ops a.tmps) = true)
    (h : ∀ K' : Act → World → Prop, Shut (∀ u w', S w' → (S w' → wpAnyH P md ops Q S fuel (listed.setIfInBounds i true) (a.put d u) w') → K' (a.put d u) w') → Oper.wp P oi a w K' Q) : wpAnyH P md ops Q S (fuel + 1) listed a w := by
  subst hd
  refine wpAnyH_ready hr (by simp) ?_
  intro j hj
  obtain rfl := List.mem_singleton.1 hj
  refine wpOp_step hi (fun K' hK => ?_)
  rw [if_pos hw]
  exact h K' (fun u w' hS' hW => hK _ _ ⟨hS', hW hS'⟩)
/-- One of those that may come up is run. -/
theorem hw_step {fuel : Nat} {listed : Array Bool} {a : Act} {w : World} {rs : List Nat} (i : Nat) (d : Option Tmp) {oi : Oper} (hi : ops[i]? = some oi) (hd : oi.dst = d) (hw : Region.wanted oi (yielded ops a.tmps) = true)
    (h : ∀ K' : Act → World → Prop, Shut (∀ u w', S w' → (S w' → wpAnyH P md ops Q S fuel (listed.setIfInBounds i true) (a.put d u) w') → K' (a.put d u) w') → Oper.wp P oi a w K' Q) (hs : AllReadyH P md ops Q S fuel listed a w rs) : AllReadyH P md ops Q S fuel listed a w (i :: rs) := by
  subst hd
  intro j hj
  rcases List.mem_cons.1 hj with rfl | hj
  · refine wpOp_step hi (fun K' hK => ?_)
    rw [if_pos hw]
    exact h K' (fun u w' hS' hW => hK _ _ ⟨hS', hW hS'⟩)
  · exact hs j hj
/-- A struct is stored, whole, into a block that is known. -/
theorem hw_store {a : Act} {w : World} {K : Act → World → Prop} (ty : TypeId) (x y : Operand) {oi : Oper} (ho : oi.op = .store ty x y) (hd : oi.dst = none) (B : Nat) (cs old : Array Value) (hx : a.eval x = .pointer (some ⟨B, 0, none⟩)) (hy : a.eval y = .agg cs)
    (hb : Blk w B ty old) (hi : (P.info? ty).map (·.size) = some cs.size) (hold : old.size = cs.size) (h1 : cs.all (·.oneCell') = true) (h : K (a.put none undef) (w.setRow B cs)) : Oper.wp P oi a w K Q := by
  refine wp_store_row ty x y ho B cs hx hy ty old hb hi hold h1 ?_
  rw [hd]
  exact h
end

theorem results_row3 {fn : Func} {t0 t1 t2 : Tmp} {ty0 ty1 ty2 : TypeId} {P : Program} {w : World} {tmps : Array Value} {B0 B1 B2 : Nat} {cs0 cs1 cs2 : Array Value} (h : fn.results = #[.cell t0 ty0, .cell t1 ty1, .cell t2 ty2])
    (ht0 : tmps[t0]? = some (.pointer (some ⟨B0, 0, none⟩))) (ht1 : tmps[t1]? = some (.pointer (some ⟨B1, 0, none⟩))) (ht2 : tmps[t2]? = some (.pointer (some ⟨B2, 0, none⟩)))
    (hb0 : Blk w B0 ty0 cs0) (hb1 : Blk w B1 ty1 cs1) (hb2 : Blk w B2 ty2 cs2)
    (hu0 : ∃ fs, P.underlying ty0 = some (.struct fs)) (hu1 : ∃ fs, P.underlying ty1 = some (.struct fs)) (hu2 : ∃ fs, P.underlying ty2 = some (.struct fs))
    (hi0 : (P.info? ty0).map (·.size) = some cs0.size) (hi1 : (P.info? ty1).map (·.size) = some cs1.size) (hi2 : (P.info? ty2).map (·.size) = some cs2.size) :
    (results fn tmps).run P w = .ok (.tuple #[.agg cs0, .agg cs1, .agg cs2]) w := by
  obtain ⟨f0, hu0⟩ := hu0
  obtain ⟨f1, hu1⟩ := hu1
  obtain ⟨f2, hu2⟩ := hu2
  have hl0 := run_loadVar_row (P := P) w B0 ty0 ty0 cs0 (0, 0) (.struct f0) hb0 hu0 rfl hi0
  have hl1 := run_loadVar_row (P := P) w B1 ty1 ty1 cs1 (0, 0) (.struct f1) hb1 hu1 rfl hi1
  have hl2 := run_loadVar_row (P := P) w B2 ty2 ty2 cs2 (0, 0) (.struct f2) hb2 hu2 rfl hi2
  simp [results, h, ht0, ht1, ht2, asAddr, hl0, hl1, hl2]

end Go.Proofs.YtkbdmcimgepakaaGreat

namespace Go.Proofs.YtkbdmcimgepakaaGreat
open Go.ChangeShapes Go.WideShapes Go.ChangeAt Go.RowKit
set_option linter.unusedVariables false
set_option linter.unusedSimpArgs false

set_option maxRecDepth 100000

/-- A cell stays where nothing old is turned. -/
theorem New.cell {w w' : World} {p : Addr} {u : Value} (h : New w w') (hp : w.cell? p = some u) : w'.cell? p = some u :=
  (World.cell?_of_block (h.block p.block (World.block_lt_of_cell? w p hp) (fun f => f))).trans hp
/-- An operation whose guard says no is left out. -/
theorem hw_skip {P : Program} {ops : Array Oper} {Q : Exit → Act → World → Prop} {md : Region.Mode} {S : World → Prop} {fuel : Nat} {listed : Array Bool} {a : Act} {w : World} (i : Nat) (d : Option Tmp) {oi : Oper} (hi : ops[i]? = some oi) (hd : oi.dst = d)
    (hs : Region.noSelect ops = true) (hf : Region.free md ops listed i = true) (hr : (Region.ready md ops listed).contains i = true)
    (hQ : ∀ c a w, Q (.panic c) (a.put d undef) w → Q (.panic c) a w) (hw : Region.wanted oi (yielded ops a.tmps) = false) (hS : S w)
    (h : wpAnyH P md ops Q S fuel (listed.setIfInBounds i true) (a.put d undef) w) : wpAnyH P md ops Q S (fuel + 1) listed a w := by
  subst hd
  exact wpAnyH_take hi hs hf hr hQ (.inr ⟨hw, rfl⟩) hS h

set_option maxHeartbeats 6400000 in
theorem oneS (sa si ho nx : Int) (a1 a2 aN aW aM aS : Option Addr) (n1 c1 n2 c2 cN cW nM cM nS cS : Nat) (r1 r2 : List Ru) (LN : List NdV) (LW : List WiV) (B : Nat) (w : World) (hb : Blk w B 44 #[.int .i64 sa, .int .i64 si, .int .i64 ho, .int .i64 nx, .slice a1 n1 c1, .slice a2 n2 c2, .slice aN 2 cN, .slice aW 3 cW, .slice aM nM cM, .slice aS nS cS]) (hN : NdAt w aN LN) (hW : WiAt w aW LW) (lN : LN.length = 2) (lW : LW.length = 3) (v : Bool) (hv : onF (LW.map WiV.r) (LN.map NdV.r) 0 = v) :
    Calls Tryz.prog 43 #[.pointer (some ⟨B, 0, none⟩)] w fun e w' => e = .returned (.bool v) ∧ New w w' := by
  have HN : Hid (LN.length = 2) := lN
  have HWl : Hid (LW.length = 3) := lW
  have HF : Hid (onF (LW.map WiV.r) ((LN.map NdV.r).drop 0) 0 = v) := hv
  clear hv lN lW
  go_enter Tryz.func43, Tryz.ntmps43
  go_wp2
  go_loopw [4, 3] (fun i c wr => ∃ (k n : Nat), k ≤ 2 ∧ n ≤ k ∧ i = .int .i64 k ∧ c = .int .i64 n ∧ New w wr ∧ Hid (onF (LW.map WiV.r) ((LN.map NdV.r).drop k) n = v)) (fun i _ _ => 2 - (intOf i).toNat)
  case atStart => exact ⟨0, 0, Nat.zero_le _, Nat.le_refl _, rfl, rfl, New.refl _, HF⟩
  case round =>
    obtain ⟨k, n, hk, hnk, rfl, rfl, hnw, hL⟩ := hrel
    by_cases hlt : k < 2
    · obtain ⟨g, id, up, ro, ep, su, ma, ot, co, x, m, d, xs, hg, hv, hl, hx, hmx, q0, q1, q2, q3, q4, q5, q6, q7, q8⟩ := (hN.new hnw).at k (by have := HN.out; omega)
      subst hg
      have HD : Hid ((if ro = 1 then onR (onF (LW.map WiV.r) ((LN.map NdV.r).drop (k + 1))) n (owF ep true (LW.map WiV.r)) else onF (LW.map WiV.r) ((LN.map NdV.r).drop (k + 1)) n) = v) := by
        unfold Hid
        have h1 := onF_at (W := (LW.map WiV.r)) (n := n) (x := (id, up, ro, ep, su, ma, ot, co, xs.map EkV.r)) (L := (LN.map NdV.r)) (k := k) (by rw [List.getElem?_map, hv]; rfl)
        have h2 := hL.out
        rw [h1] at h2
        exact h2
      have hb1 := hb.new hnw
      have cB := hb1.cells
      have hdk : decide ((k : Int) < 2) = true := by simp; omega
      have hdk2 : (k : Int) < 2 := by omega
      clear hv hl hL hmx hx
      by_cases hr : ro = 1
      case neg =>
        have HR : Hid (onF (LW.map WiV.r) ((LN.map NdV.r).drop (k + 1)) n = v) := by have := HD.out; rw [if_neg hr] at this; exact this
        have gr : (ro != 1) = true := by simp [hr]
        clear HD
        go_wp2
        go_roundw
        case rel => exact ⟨k + 1, n, by omega, by omega, by go_num, rfl, hnw, HR⟩
        case measure => simp [intOf]; omega
      subst hr
      have HR : Hid (onR (onF (LW.map WiV.r) ((LN.map NdV.r).drop (k + 1))) n (owF ep true ((LW.map WiV.r).drop 0)) = v) := by have := HD.out; rw [if_pos rfl] at this; exact this
      clear HD
      go_wp2
      go_loopw [6, 5] (fun j ev wi => ∃ (i : Nat) (b : Bool), i ≤ 3 ∧ j = .int .i64 i ∧ ev = .bool b ∧ New wr wi ∧ Hid (onR (onF (LW.map WiV.r) ((LN.map NdV.r).drop (k + 1))) n (owF ep b ((LW.map WiV.r).drop i)) = v)) (fun j _ _ => 3 - (intOf j).toNat)
      case atStart => exact ⟨0, true, Nat.zero_le _, rfl, rfl, New.refl _, HR⟩
      case round =>
        obtain ⟨i, b, hi, rfl, rfl, hni, hL2⟩ := hrel
        have hnw2 := hnw.trans hni
        have hb2 := hb1.new hni
        clear cB
        have cB := hb2.cells
        by_cases hlt2 : i < 3
        · obtain ⟨g2, E, T, y, y2, q, f, q2, f2, ys, zs, hg2, hv2, hl1, hl2, hx1, hx2, hmx, hmx2, q0', q1', q2', q3'⟩ := (hW.new hnw2).at i (by have := HWl.out; omega)
          subst hg2
          have HD2 : Hid (onR (onF (LW.map WiV.r) ((LN.map NdV.r).drop (k + 1))) n (if E < ep then none else owF ep (b && decide (ep = E)) ((LW.map WiV.r).drop (i + 1))) = v) := by
            unfold Hid
            have h1 := owF_at (ep := ep) (b := b) (x := (E, T, ys, zs)) (L := (LW.map WiV.r)) (k := i) (by rw [List.getElem?_map, hv2]; rfl)
            have h2 := hL2.out
            rw [h1] at h2
            exact h2
          have q3n : wr.cell? ⟨g, k * 9 + 3, none⟩ = some (.int .i64 ep) := hni.cell q3
          clear hv2 hl1 hl2 hL2 hx1 hx2 hmx hmx2 q0 q1 q2 q3 q4 q5 q6 q7 q8 q1' q2' q3'
          by_cases h1 : E < ep
          · have HR2 : Hid (false = v) := by have := HD2.out; rw [if_pos h1] at this; exact this
            have d1 : decide (E < ep) = true := by simpa using h1
            clear HD2
            have cBd := (hb2.new ((New.refl _).drew)).cells
            have q3d : wr.drew.cell? ⟨g, k * 9 + 3, none⟩ = some (.int .i64 ep) := q3n
            have q0d : wr.drew.cell? ⟨g2, i * 4, none⟩ = some (.int .i64 E) := q0'
            go_wp2_with fail
            go_region_held3 (fun W => (∀ j, W.cell? ⟨B, j, none⟩ = (#[.int .i64 sa, .int .i64 si, .int .i64 ho, .int .i64 nx, .slice a1 n1 c1, .slice a2 n2 c2, .slice (some ⟨g, 0, none⟩) 2 cN, .slice (some ⟨g2, 0, none⟩) 3 cW, .slice aM nM cM, .slice aS nS cS] : Array Value)[j]?) ∧ W.cell? ⟨g, k * 9 + 3, none⟩ = some (.int .i64 ep) ∧ W.cell? ⟨g2, i * 4, none⟩ = some (.int .i64 E)) (first | exact ⟨cB, q3n, q0'⟩ | exact ⟨cBd, q3d, q0d⟩) (fail)
            go_wp2
            all_goals (go_ret; exact ⟨ret_bool HR2.out, hnw2.drew⟩)
          have d1 : decide (E < ep) = false := by simpa using h1
          have HR2 : Hid (onR (onF (LW.map WiV.r) ((LN.map NdV.r).drop (k + 1))) n (owF ep (b && decide (ep = E)) ((LW.map WiV.r).drop (i + 1))) = v) := by have := HD2.out; rw [if_neg h1] at this; exact this
          clear HD2
          have cBd := (hb2.new ((New.refl _).drew)).cells
          have q3d : wr.drew.cell? ⟨g, k * 9 + 3, none⟩ = some (.int .i64 ep) := q3n
          have q0d : wr.drew.cell? ⟨g2, i * 4, none⟩ = some (.int .i64 E) := q0'
          go_wp2_with fail
          go_region_held3 (fun W => (∀ j, W.cell? ⟨B, j, none⟩ = (#[.int .i64 sa, .int .i64 si, .int .i64 ho, .int .i64 nx, .slice a1 n1 c1, .slice a2 n2 c2, .slice (some ⟨g, 0, none⟩) 2 cN, .slice (some ⟨g2, 0, none⟩) 3 cW, .slice aM nM cM, .slice aS nS cS] : Array Value)[j]?) ∧ W.cell? ⟨g, k * 9 + 3, none⟩ = some (.int .i64 ep) ∧ W.cell? ⟨g2, i * 4, none⟩ = some (.int .i64 E)) (first | exact ⟨cB, q3n, q0'⟩ | exact ⟨cBd, q3d, q0d⟩) (fail)
          have hb3 := hb2.new ((New.refl _).drew)
          have hni3 := hni.drew
          clear cB q3n q0' cBd
          generalize wr.drew = w3 at *
          have cB := hb3.cells
          have cBd := (hb3.new ((New.refl _).drew)).cells
          have q3e : w3.drew.cell? ⟨g, k * 9 + 3, none⟩ = some (.int .i64 ep) := q3d
          have q0e : w3.drew.cell? ⟨g2, i * 4, none⟩ = some (.int .i64 E) := q0d
          cases b with
          | true =>
            by_cases h2 : ep = E
            · have d2 : (ep == E) = true := by simp [h2]
              have HR3 : Hid (onR (onF (LW.map WiV.r) ((LN.map NdV.r).drop (k + 1))) n (owF ep true ((LW.map WiV.r).drop (i + 1))) = v) := by have := HR2.out; rw [show (true && decide (ep = E)) = true from by simp [h2]] at this; exact this
              clear HR2
              have H2 : Hid (ep = E) := h2
              clear h2
              go_upto_region 12 with fail
              refine hw_start (n := 21) (S := fun X => New w3 X) rfl (by kernel_rfl) ((New.refl _).drew) (fun hH => ?_)
              refine' hw_take 0 (some 46) _ rfl rfl (by kernel_rfl) (by kernel_rfl) (by kernel_rfl) (fun _ _ _ h => h) (by rfl) hH ?hy5 ?rest5
              case hy5 =>
                intro X hX
                go_simp
                try rfl
              simp only [Act.put, List.setIfInBounds_toArray, List.set_cons_zero, List.set_cons_succ]
              refine' hw_take 1 (some 47) _ rfl rfl (by kernel_rfl) (by kernel_rfl) (by kernel_rfl) (fun _ _ _ h => h) (by rfl) hH ?hy6 ?rest6
              case hy6 =>
                intro X hX
                go_simp
                try rfl
              simp only [Act.put, List.setIfInBounds_toArray, List.set_cons_zero, List.set_cons_succ]
              refine' hw_take 2 (some 48) _ rfl rfl (by kernel_rfl) (by kernel_rfl) (by kernel_rfl) (fun _ _ _ h => h) (by rfl) hH ?hy7 ?rest7
              case hy7 =>
                intro X hX
                go_simp
                try rfl
              simp only [Act.put, List.setIfInBounds_toArray, List.set_cons_zero, List.set_cons_succ]
              refine' hw_take 3 (some 49) _ rfl rfl (by kernel_rfl) (by kernel_rfl) (by kernel_rfl) (fun _ _ _ h => h) (by rfl) hH ?hy8 ?rest8
              case hy8 =>
                intro X hX
                go_simp
                try rfl
              simp only [Act.put, List.setIfInBounds_toArray, List.set_cons_zero, List.set_cons_succ]
              refine' hw_take 4 (some 50) _ rfl rfl (by kernel_rfl) (by kernel_rfl) (by kernel_rfl) (fun _ _ _ h => h) (by rfl) hH ?hy9 ?rest9
              case hy9 =>
                intro X hX
                go_simp
                try rfl
              simp only [Act.put, List.setIfInBounds_toArray, List.set_cons_zero, List.set_cons_succ]
              refine' hw_take 5 (some 51) _ rfl rfl (by kernel_rfl) (by kernel_rfl) (by kernel_rfl) (fun _ _ _ h => h) (by rfl) hH ?hy10 ?rest10
              case hy10 =>
                intro X hX
                have cX := (hb3.new hX).cells
                have cY := hX.cell q3d
                have cZ := hX.cell q0d
                go_simp
                try rfl
              simp only [Act.put, List.setIfInBounds_toArray, List.set_cons_zero, List.set_cons_succ]
              refine' hw_take 6 (some 52) _ rfl rfl (by kernel_rfl) (by kernel_rfl) (by kernel_rfl) (fun _ _ _ h => h) (by rfl) hH ?hy11 ?rest11
              case hy11 =>
                intro X hX
                go_simp
                try rfl
              simp only [Act.put, List.setIfInBounds_toArray, List.set_cons_zero, List.set_cons_succ]
              refine' hw_take 7 (some 53) _ rfl rfl (by kernel_rfl) (by kernel_rfl) (by kernel_rfl) (fun _ _ _ h => h) (by rfl) hH ?hy12 ?rest12
              case hy12 =>
                intro X hX
                go_simp
                try rfl
              simp only [Act.put, List.setIfInBounds_toArray, List.set_cons_zero, List.set_cons_succ]
              refine' hw_take 8 (some 54) _ rfl rfl (by kernel_rfl) (by kernel_rfl) (by kernel_rfl) (fun _ _ _ h => h) (by rfl) hH ?hy13 ?rest13
              case hy13 =>
                intro X hX
                go_simp
                try rfl
              simp only [Act.put, List.setIfInBounds_toArray, List.set_cons_zero, List.set_cons_succ]
              refine' hw_take 9 (some 55) _ rfl rfl (by kernel_rfl) (by kernel_rfl) (by kernel_rfl) (fun _ _ _ h => h) (by rfl) hH ?hy14 ?rest14
              case hy14 =>
                intro X hX
                have cX := (hb3.new hX).cells
                have cY := hX.cell q3d
                have cZ := hX.cell q0d
                go_simp
                try rfl
              simp only [Act.put, List.setIfInBounds_toArray, List.set_cons_zero, List.set_cons_succ]
              refine' hw_take 10 (some 56) _ rfl rfl (by kernel_rfl) (by kernel_rfl) (by kernel_rfl) (fun _ _ _ h => h) (by rfl) hH ?hy15 ?rest15
              case hy15 =>
                intro X hX
                go_simp
                try rfl
              simp only [Act.put, List.setIfInBounds_toArray, List.set_cons_zero, List.set_cons_succ]
              refine' hw_take 11 (some 57) _ rfl rfl (by kernel_rfl) (by kernel_rfl) (by kernel_rfl) (fun _ _ _ h => h) (by rfl) hH ?hy16 ?rest16
              case hy16 =>
                intro X hX
                go_simp
                try rfl
              simp only [Act.put, List.setIfInBounds_toArray, List.set_cons_zero, List.set_cons_succ]
              refine' hw_take 12 (some 58) _ rfl rfl (by kernel_rfl) (by kernel_rfl) (by kernel_rfl) (fun _ _ _ h => h) (by rfl) hH ?hy17 ?rest17
              case hy17 =>
                intro X hX
                go_simp
                try rfl
              simp only [Act.put, List.setIfInBounds_toArray, List.set_cons_zero, List.set_cons_succ]
              refine' hw_take 13 (some 59) _ rfl rfl (by kernel_rfl) (by kernel_rfl) (by kernel_rfl) (fun _ _ _ h => h) (by rfl) hH ?hy18 ?rest18
              case hy18 =>
                intro X hX
                have cX := (hb3.new hX).cells
                have cY := hX.cell q3d
                have cZ := hX.cell q0d
                go_simp
                try rfl
              simp only [Act.put, List.setIfInBounds_toArray, List.set_cons_zero, List.set_cons_succ]
              refine' hw_take 14 (some 60) _ rfl rfl (by kernel_rfl) (by kernel_rfl) (by kernel_rfl) (fun _ _ _ h => h) (by rfl) hH ?hy19 ?rest19
              case hy19 =>
                intro X hX
                go_simp
                try rfl
              simp only [Act.put, List.setIfInBounds_toArray, List.set_cons_zero, List.set_cons_succ]
              refine' hw_take 15 (some 61) _ rfl rfl (by kernel_rfl) (by kernel_rfl) (by kernel_rfl) (fun _ _ _ h => h) (by rfl) hH ?hy20 ?rest20
              case hy20 =>
                intro X hX
                go_simp
                try rfl
              simp only [Act.put, List.setIfInBounds_toArray, List.set_cons_zero, List.set_cons_succ]
              refine' hw_take 16 (some 62) _ rfl rfl (by kernel_rfl) (by kernel_rfl) (by kernel_rfl) (fun _ _ _ h => h) (by rfl) hH ?hy21 ?rest21
              case hy21 =>
                intro X hX
                go_simp
                try rfl
              simp only [Act.put, List.setIfInBounds_toArray, List.set_cons_zero, List.set_cons_succ]
              refine' hw_take 17 (some 63) _ rfl rfl (by kernel_rfl) (by kernel_rfl) (by kernel_rfl) (fun _ _ _ h => h) (by rfl) hH ?hy22 ?rest22
              case hy22 =>
                intro X hX
                have cX := (hb3.new hX).cells
                have cY := hX.cell q3d
                have cZ := hX.cell q0d
                go_simp
                try rfl
              simp only [Act.put, List.setIfInBounds_toArray, List.set_cons_zero, List.set_cons_succ]
              refine' hw_take 18 (some 64) _ rfl rfl (by kernel_rfl) (by kernel_rfl) (by kernel_rfl) (fun _ _ _ h => h) (by rfl) hH ?hy23 ?rest23
              case hy23 =>
                intro X hX
                go_simp
                try rfl
              simp only [Act.put, List.setIfInBounds_toArray, List.set_cons_zero, List.set_cons_succ]
              refine' hw_take 19 (some 65) _ rfl rfl (by kernel_rfl) (by kernel_rfl) (by kernel_rfl) (fun _ _ _ h => h) (by rfl) hH ?hy24 ?rest24
              case hy24 =>
                intro X hX
                go_simp
                try rfl
              simp only [Act.put, List.setIfInBounds_toArray, List.set_cons_zero, List.set_cons_succ]
              refine' hw_take 20 (some 5) _ rfl rfl (by kernel_rfl) (by kernel_rfl) (by kernel_rfl) (fun _ _ _ h => h) (by rfl) hH ?hy25 ?rest25
              case hy25 =>
                intro X hX
                go_simp
                try rfl
              simp only [Act.put, List.setIfInBounds_toArray, List.set_cons_zero, List.set_cons_succ]
              refine wpAnyH_done (by kernel_rfl) ?_ _
              go_wp2
              go_roundw
              case rel => exact ⟨i + 1, true, by omega, by go_num, rfl, hni3.drew, HR3⟩
              case measure => simp [intOf]; omega
            · have d2 : (ep == E) = false := by simp [h2]
              have HR3 : Hid (onR (onF (LW.map WiV.r) ((LN.map NdV.r).drop (k + 1))) n (owF ep false ((LW.map WiV.r).drop (i + 1))) = v) := by have := HR2.out; rw [show (true && decide (ep = E)) = false from by simp [h2]] at this; exact this
              clear HR2
              go_upto_region 12 with fail
              refine hw_start (n := 21) (S := fun X => New w3 X) rfl (by kernel_rfl) ((New.refl _).drew) (fun hH => ?_)
              refine' hw_take 0 (some 46) _ rfl rfl (by kernel_rfl) (by kernel_rfl) (by kernel_rfl) (fun _ _ _ h => h) (by rfl) hH ?hy26 ?rest26
              case hy26 =>
                intro X hX
                go_simp
                try rfl
              simp only [Act.put, List.setIfInBounds_toArray, List.set_cons_zero, List.set_cons_succ]
              refine' hw_take 1 (some 47) _ rfl rfl (by kernel_rfl) (by kernel_rfl) (by kernel_rfl) (fun _ _ _ h => h) (by rfl) hH ?hy27 ?rest27
              case hy27 =>
                intro X hX
                go_simp
                try rfl
              simp only [Act.put, List.setIfInBounds_toArray, List.set_cons_zero, List.set_cons_succ]
              refine' hw_take 2 (some 48) _ rfl rfl (by kernel_rfl) (by kernel_rfl) (by kernel_rfl) (fun _ _ _ h => h) (by rfl) hH ?hy28 ?rest28
              case hy28 =>
                intro X hX
                go_simp
                try rfl
              simp only [Act.put, List.setIfInBounds_toArray, List.set_cons_zero, List.set_cons_succ]
              refine' hw_take 3 (some 49) _ rfl rfl (by kernel_rfl) (by kernel_rfl) (by kernel_rfl) (fun _ _ _ h => h) (by rfl) hH ?hy29 ?rest29
              case hy29 =>
                intro X hX
                go_simp
                try rfl
              simp only [Act.put, List.setIfInBounds_toArray, List.set_cons_zero, List.set_cons_succ]
              refine' hw_take 4 (some 50) _ rfl rfl (by kernel_rfl) (by kernel_rfl) (by kernel_rfl) (fun _ _ _ h => h) (by rfl) hH ?hy30 ?rest30
              case hy30 =>
                intro X hX
                go_simp
                try rfl
              simp only [Act.put, List.setIfInBounds_toArray, List.set_cons_zero, List.set_cons_succ]
              refine' hw_take 5 (some 51) _ rfl rfl (by kernel_rfl) (by kernel_rfl) (by kernel_rfl) (fun _ _ _ h => h) (by rfl) hH ?hy31 ?rest31
              case hy31 =>
                intro X hX
                have cX := (hb3.new hX).cells
                have cY := hX.cell q3d
                have cZ := hX.cell q0d
                go_simp
                try rfl
              simp only [Act.put, List.setIfInBounds_toArray, List.set_cons_zero, List.set_cons_succ]
              refine' hw_take 6 (some 52) _ rfl rfl (by kernel_rfl) (by kernel_rfl) (by kernel_rfl) (fun _ _ _ h => h) (by rfl) hH ?hy32 ?rest32
              case hy32 =>
                intro X hX
                go_simp
                try rfl
              simp only [Act.put, List.setIfInBounds_toArray, List.set_cons_zero, List.set_cons_succ]
              refine' hw_take 7 (some 53) _ rfl rfl (by kernel_rfl) (by kernel_rfl) (by kernel_rfl) (fun _ _ _ h => h) (by rfl) hH ?hy33 ?rest33
              case hy33 =>
                intro X hX
                go_simp
                try rfl
              simp only [Act.put, List.setIfInBounds_toArray, List.set_cons_zero, List.set_cons_succ]
              refine' hw_take 8 (some 54) _ rfl rfl (by kernel_rfl) (by kernel_rfl) (by kernel_rfl) (fun _ _ _ h => h) (by rfl) hH ?hy34 ?rest34
              case hy34 =>
                intro X hX
                go_simp
                try rfl
              simp only [Act.put, List.setIfInBounds_toArray, List.set_cons_zero, List.set_cons_succ]
              refine' hw_take 9 (some 55) _ rfl rfl (by kernel_rfl) (by kernel_rfl) (by kernel_rfl) (fun _ _ _ h => h) (by rfl) hH ?hy35 ?rest35
              case hy35 =>
                intro X hX
                have cX := (hb3.new hX).cells
                have cY := hX.cell q3d
                have cZ := hX.cell q0d
                go_simp
                try rfl
              simp only [Act.put, List.setIfInBounds_toArray, List.set_cons_zero, List.set_cons_succ]
              refine' hw_take 10 (some 56) _ rfl rfl (by kernel_rfl) (by kernel_rfl) (by kernel_rfl) (fun _ _ _ h => h) (by rfl) hH ?hy36 ?rest36
              case hy36 =>
                intro X hX
                go_simp
                try rfl
              simp only [Act.put, List.setIfInBounds_toArray, List.set_cons_zero, List.set_cons_succ]
              refine' hw_take 11 (some 57) _ rfl rfl (by kernel_rfl) (by kernel_rfl) (by kernel_rfl) (fun _ _ _ h => h) (by rfl) hH ?hy37 ?rest37
              case hy37 =>
                intro X hX
                go_simp
                try rfl
              simp only [Act.put, List.setIfInBounds_toArray, List.set_cons_zero, List.set_cons_succ]
              refine' hw_take 12 (some 58) _ rfl rfl (by kernel_rfl) (by kernel_rfl) (by kernel_rfl) (fun _ _ _ h => h) (by rfl) hH ?hy38 ?rest38
              case hy38 =>
                intro X hX
                go_simp
                try rfl
              simp only [Act.put, List.setIfInBounds_toArray, List.set_cons_zero, List.set_cons_succ]
              refine' hw_take 13 (some 59) _ rfl rfl (by kernel_rfl) (by kernel_rfl) (by kernel_rfl) (fun _ _ _ h => h) (by rfl) hH ?hy39 ?rest39
              case hy39 =>
                intro X hX
                have cX := (hb3.new hX).cells
                have cY := hX.cell q3d
                have cZ := hX.cell q0d
                go_simp
                try rfl
              simp only [Act.put, List.setIfInBounds_toArray, List.set_cons_zero, List.set_cons_succ]
              refine' hw_take 14 (some 60) _ rfl rfl (by kernel_rfl) (by kernel_rfl) (by kernel_rfl) (fun _ _ _ h => h) (by rfl) hH ?hy40 ?rest40
              case hy40 =>
                intro X hX
                go_simp
                try rfl
              simp only [Act.put, List.setIfInBounds_toArray, List.set_cons_zero, List.set_cons_succ]
              refine' hw_take 15 (some 61) _ rfl rfl (by kernel_rfl) (by kernel_rfl) (by kernel_rfl) (fun _ _ _ h => h) (by rfl) hH ?hy41 ?rest41
              case hy41 =>
                intro X hX
                go_simp
                try rfl
              simp only [Act.put, List.setIfInBounds_toArray, List.set_cons_zero, List.set_cons_succ]
              refine' hw_take 16 (some 62) _ rfl rfl (by kernel_rfl) (by kernel_rfl) (by kernel_rfl) (fun _ _ _ h => h) (by rfl) hH ?hy42 ?rest42
              case hy42 =>
                intro X hX
                go_simp
                try rfl
              simp only [Act.put, List.setIfInBounds_toArray, List.set_cons_zero, List.set_cons_succ]
              refine' hw_take 17 (some 63) _ rfl rfl (by kernel_rfl) (by kernel_rfl) (by kernel_rfl) (fun _ _ _ h => h) (by rfl) hH ?hy43 ?rest43
              case hy43 =>
                intro X hX
                have cX := (hb3.new hX).cells
                have cY := hX.cell q3d
                have cZ := hX.cell q0d
                go_simp
                try rfl
              simp only [Act.put, List.setIfInBounds_toArray, List.set_cons_zero, List.set_cons_succ]
              refine' hw_take 18 (some 64) _ rfl rfl (by kernel_rfl) (by kernel_rfl) (by kernel_rfl) (fun _ _ _ h => h) (by rfl) hH ?hy44 ?rest44
              case hy44 =>
                intro X hX
                go_simp
                try rfl
              simp only [Act.put, List.setIfInBounds_toArray, List.set_cons_zero, List.set_cons_succ]
              refine' hw_take 19 (some 65) _ rfl rfl (by kernel_rfl) (by kernel_rfl) (by kernel_rfl) (fun _ _ _ h => h) (by rfl) hH ?hy45 ?rest45
              case hy45 =>
                intro X hX
                go_simp
                try rfl
              simp only [Act.put, List.setIfInBounds_toArray, List.set_cons_zero, List.set_cons_succ]
              refine' hw_take 20 (some 5) _ rfl rfl (by kernel_rfl) (by kernel_rfl) (by kernel_rfl) (fun _ _ _ h => h) (by rfl) hH ?hy46 ?rest46
              case hy46 =>
                intro X hX
                go_simp
                try rfl
              simp only [Act.put, List.setIfInBounds_toArray, List.set_cons_zero, List.set_cons_succ]
              refine wpAnyH_done (by kernel_rfl) ?_ _
              go_wp2
              go_roundw
              case rel => exact ⟨i + 1, false, by omega, by go_num, rfl, hni3.drew, HR3⟩
              case measure => simp [intOf]; omega
          | false =>
            have HR3 : Hid (onR (onF (LW.map WiV.r) ((LN.map NdV.r).drop (k + 1))) n (owF ep false ((LW.map WiV.r).drop (i + 1))) = v) := by have := HR2.out; rw [show (false && decide (ep = E)) = false from rfl] at this; exact this
            clear HR2
            go_upto_region 12 with fail
            refine hw_start (n := 21) (S := fun X => New w3 X) rfl (by kernel_rfl) ((New.refl _).drew) (fun hH => ?_)
            refine' hw_take 0 (some 46) _ rfl rfl (by kernel_rfl) (by kernel_rfl) (by kernel_rfl) (fun _ _ _ h => h) (by rfl) hH ?hy1 ?rest1
            case hy1 =>
              intro X hX
              go_simp
              try rfl
            simp only [Act.put, List.setIfInBounds_toArray, List.set_cons_zero, List.set_cons_succ]
            refine' hw_take 1 (some 47) _ rfl rfl (by kernel_rfl) (by kernel_rfl) (by kernel_rfl) (fun _ _ _ h => h) (by rfl) hH ?hy2 ?rest2
            case hy2 =>
              intro X hX
              go_simp
              try rfl
            simp only [Act.put, List.setIfInBounds_toArray, List.set_cons_zero, List.set_cons_succ]
            refine hw_skip 2 (some 48) rfl rfl (by kernel_rfl) (by kernel_rfl) (by kernel_rfl) (fun _ _ _ h => h) (by rfl) hH ?_
            simp only [Act.put, List.setIfInBounds_toArray, List.set_cons_zero, List.set_cons_succ]
            refine hw_skip 3 (some 49) rfl rfl (by kernel_rfl) (by kernel_rfl) (by kernel_rfl) (fun _ _ _ h => h) (by rfl) hH ?_
            simp only [Act.put, List.setIfInBounds_toArray, List.set_cons_zero, List.set_cons_succ]
            refine hw_skip 4 (some 50) rfl rfl (by kernel_rfl) (by kernel_rfl) (by kernel_rfl) (fun _ _ _ h => h) (by rfl) hH ?_
            simp only [Act.put, List.setIfInBounds_toArray, List.set_cons_zero, List.set_cons_succ]
            refine hw_skip 5 (some 51) rfl rfl (by kernel_rfl) (by kernel_rfl) (by kernel_rfl) (fun _ _ _ h => h) (by rfl) hH ?_
            simp only [Act.put, List.setIfInBounds_toArray, List.set_cons_zero, List.set_cons_succ]
            refine hw_skip 6 (some 52) rfl rfl (by kernel_rfl) (by kernel_rfl) (by kernel_rfl) (fun _ _ _ h => h) (by rfl) hH ?_
            simp only [Act.put, List.setIfInBounds_toArray, List.set_cons_zero, List.set_cons_succ]
            refine hw_skip 7 (some 53) rfl rfl (by kernel_rfl) (by kernel_rfl) (by kernel_rfl) (fun _ _ _ h => h) (by rfl) hH ?_
            simp only [Act.put, List.setIfInBounds_toArray, List.set_cons_zero, List.set_cons_succ]
            refine hw_skip 8 (some 54) rfl rfl (by kernel_rfl) (by kernel_rfl) (by kernel_rfl) (fun _ _ _ h => h) (by rfl) hH ?_
            simp only [Act.put, List.setIfInBounds_toArray, List.set_cons_zero, List.set_cons_succ]
            refine hw_skip 9 (some 55) rfl rfl (by kernel_rfl) (by kernel_rfl) (by kernel_rfl) (fun _ _ _ h => h) (by rfl) hH ?_
            simp only [Act.put, List.setIfInBounds_toArray, List.set_cons_zero, List.set_cons_succ]
            refine hw_skip 10 (some 56) rfl rfl (by kernel_rfl) (by kernel_rfl) (by kernel_rfl) (fun _ _ _ h => h) (by rfl) hH ?_
            simp only [Act.put, List.setIfInBounds_toArray, List.set_cons_zero, List.set_cons_succ]
            refine hw_skip 11 (some 57) rfl rfl (by kernel_rfl) (by kernel_rfl) (by kernel_rfl) (fun _ _ _ h => h) (by rfl) hH ?_
            simp only [Act.put, List.setIfInBounds_toArray, List.set_cons_zero, List.set_cons_succ]
            refine hw_skip 12 (some 58) rfl rfl (by kernel_rfl) (by kernel_rfl) (by kernel_rfl) (fun _ _ _ h => h) (by rfl) hH ?_
            simp only [Act.put, List.setIfInBounds_toArray, List.set_cons_zero, List.set_cons_succ]
            refine hw_skip 13 (some 59) rfl rfl (by kernel_rfl) (by kernel_rfl) (by kernel_rfl) (fun _ _ _ h => h) (by rfl) hH ?_
            simp only [Act.put, List.setIfInBounds_toArray, List.set_cons_zero, List.set_cons_succ]
            refine hw_skip 14 (some 60) rfl rfl (by kernel_rfl) (by kernel_rfl) (by kernel_rfl) (fun _ _ _ h => h) (by rfl) hH ?_
            simp only [Act.put, List.setIfInBounds_toArray, List.set_cons_zero, List.set_cons_succ]
            refine hw_skip 15 (some 61) rfl rfl (by kernel_rfl) (by kernel_rfl) (by kernel_rfl) (fun _ _ _ h => h) (by rfl) hH ?_
            simp only [Act.put, List.setIfInBounds_toArray, List.set_cons_zero, List.set_cons_succ]
            refine hw_skip 16 (some 62) rfl rfl (by kernel_rfl) (by kernel_rfl) (by kernel_rfl) (fun _ _ _ h => h) (by rfl) hH ?_
            simp only [Act.put, List.setIfInBounds_toArray, List.set_cons_zero, List.set_cons_succ]
            refine hw_skip 17 (some 63) rfl rfl (by kernel_rfl) (by kernel_rfl) (by kernel_rfl) (fun _ _ _ h => h) (by rfl) hH ?_
            simp only [Act.put, List.setIfInBounds_toArray, List.set_cons_zero, List.set_cons_succ]
            refine hw_skip 18 (some 64) rfl rfl (by kernel_rfl) (by kernel_rfl) (by kernel_rfl) (fun _ _ _ h => h) (by rfl) hH ?_
            simp only [Act.put, List.setIfInBounds_toArray, List.set_cons_zero, List.set_cons_succ]
            refine' hw_take 19 (some 65) _ rfl rfl (by kernel_rfl) (by kernel_rfl) (by kernel_rfl) (fun _ _ _ h => h) (by rfl) hH ?hy3 ?rest3
            case hy3 =>
              intro X hX
              go_simp
              try rfl
            simp only [Act.put, List.setIfInBounds_toArray, List.set_cons_zero, List.set_cons_succ]
            refine' hw_take 20 (some 5) _ rfl rfl (by kernel_rfl) (by kernel_rfl) (by kernel_rfl) (fun _ _ _ h => h) (by rfl) hH ?hy4 ?rest4
            case hy4 =>
              intro X hX
              go_simp
              try rfl
            simp only [Act.put, List.setIfInBounds_toArray, List.set_cons_zero, List.set_cons_succ]
            refine wpAnyH_done (by kernel_rfl) ?_ _
            go_wp2
            go_roundw
            case rel => exact ⟨i + 1, false, by omega, by go_num, rfl, hni3.drew, HR3⟩
            case measure => simp [intOf]; omega
        · have HR2 : Hid (onF (LW.map WiV.r) ((LN.map NdV.r).drop (k + 1)) (n + (if b then 1 else 0)) = v) := by
            unfold Hid
            have := hL2.out
            rw [owF_end (by have := HWl.out; simp; omega)] at this
            exact this
          clear hL2
          cases b with
          | true =>
            go_wp2
            go_roundw
            case rel => exact ⟨k + 1, n + 1, by omega, by omega, by go_num, by go_num, hnw2, HR2⟩
            case measure => simp [intOf]; omega
          | false =>
            go_wp2
            go_roundw
            case rel => exact ⟨k + 1, n, by omega, by omega, by go_num, by go_num, hnw2, HR2⟩
            case measure => simp [intOf]; omega
    · have HR : Hid (decide (n ≤ 1) = v) := by unfold Hid; rw [← hL.out, onF_end (by have := HN.out; simp; omega)]
      clear hL
      go_wp2
      go_ret
      refine ⟨?_, hnw⟩
      rw [← HR.out]
      congr 2
      simp
      omega

end Go.Proofs.YtkbdmcimgepakaaGreat

namespace Go.Proofs.YtkbdmcimgepakaaGreat
open Go.RowKit Go.Sort
set_option linter.unusedVariables false
set_option linter.unusedSimpArgs false
set_option maxRecDepth 100000
variable {vx0 vx1 vx2 vx3 vx4 vx5 vx6 vx7 vx8 : Value}

set_option maxHeartbeats 3200000 in
theorem specLF_a (B : Nat) (id : Int) (up : Bool) (ro ep su ma ot co : Int) (A : Option Addr) (n c : Nat) (V : List EkV) (w : World) (hb : Blk w B 98 #[.int .i64 id, .bool up, .int .i64 ro, .int .i64 ep, .slice A n c, .int .i64 su, .int .i64 ma, .int .i64 ot, .int .i64 co, vx0, vx1, vx2, vx3, vx4, vx5, vx6, vx7, vx8]) (h : LgAt w A V) (hn : V.length = n) (hm : n ≤ 2097152) :
    Calls Tryz.prog 111 #[.pointer (some ⟨B, 0, none⟩)] w fun e w' => e = .returned (.int .i64 (lg2 n (lgF ep 0 (V.map EkV.r)))) ∧ New w w' := by
  have HN : Hid (V.length = n) := hn
  have cB := hb.cells
  clear hn
  by_cases hbig : 100 < n
  · have HR : Hid ((2 : Int) = lg2 n (lgF ep 0 (V.map EkV.r))) := by unfold Hid lg2; rw [if_pos hbig]
    go_enter Tryz.func111, Tryz.ntmps111
    go_wp2
    go_ret
    exact ⟨ret_i64 HR.out, New.refl _⟩
  have HL2 : lg2 n (lgF ep 0 (V.map EkV.r)) = lgF ep 0 (V.map EkV.r) := by unfold lg2; rw [if_neg hbig]
  rw [HL2]
  clear HL2
  go_enter Tryz.func111, Tryz.ntmps111
  go_wp2
  go_loopw [3] (fun i wr => ∃ (k : Nat) (p : Int), k ≤ n ∧ i = .int .i64 k ∧ New w wr ∧ Hid (k = 0 → p = 0) ∧ Hid (0 < k → ∃ u, V[k - 1]? = some u ∧ p = u.r.ep) ∧ Hid (lgF ep p ((V.map EkV.r).drop k) = lgF ep 0 (V.map EkV.r))) (fun i _ => n - (intOf i).toNat)
  case atStart => exact ⟨0, 0, Nat.zero_le _, rfl, New.refl _, fun _ => rfl, fun h => by omega, by unfold Hid; simp⟩
  case round =>
    obtain ⟨k, p, hk, rfl, hnw, hp0, hp1, hL⟩ := hrel
    have cB := (hb.new hnw).cells
    by_cases hlt : k < n
    · obtain ⟨g, e1, ki, pe, a, m, c1, xs, rfl, hv, hl, hx, hmx, x0, x1, x2, x3⟩ := (h.new hnw).at k (by have := HN.out; omega)
      have HD : Hid (lgF ep 0 (V.map EkV.r) = _) := hL.out.symm.trans (lgF_at hv hl)
      have HV : Hid (V[k]? = some ⟨⟨e1, ki, pe, xs⟩, a, c1⟩) := hv
      have hprev : Hid (0 < k → wr.cell? ⟨g, (k - 1) * 4, none⟩ = some (.int .i64 p)) := by
        intro h0
        obtain ⟨u, hu, rfl⟩ := hp1.out h0
        obtain ⟨⟨g', hg', hc'⟩, -, -⟩ := (h.new hnw) (k - 1) u hu
        cases hg'
        exact hc' 0 (by omega)
      clear hv hl h hL hp1
      go_wp2_with fail
      refine (specEN e1 ki pe a m c1 _ (by omega)).mono ?_
      rintro e w2 ⟨rfl, hn2⟩
      have lB := (hb.new hnw).lt
      have cN := ((hb.new hnw).new hn2).cells
      have hw2 := hnw.trans hn2
      have lg := World.block_lt_of_cell? wr _ x0
      have y0 : w2.cell? ⟨g, k * 4, none⟩ = some (.int .i64 e1) := (hn2.cells _ _ lg).trans x0
      have hprev2 : Hid (0 < k → w2.cell? ⟨g, (k - 1) * 4, none⟩ = some (.int .i64 p)) := fun h0 => (hn2.cells _ _ lg).trans (hprev.out h0)
      have HX : Hid (enF e1 ki pe m = 0 → 1 ≤ e1 ∧ e1 ≤ 1000) := enF_ep
      clear x0 x1 x2 x3 cB hprev
      generalize enF e1 ki pe m = f at *
      by_cases hf : f = 0
      · subst hf
        have hE := HX.out rfl
        by_cases h1 : ep < e1
        · have g1 : decide (ep < e1) = true := decide_eq_true h1
          have HR : Hid (lgF ep 0 (V.map EkV.r) = 1) := by unfold Hid; rw [HD.out]; simp [h1]
          go_wp2
          have Y0 := cell_regrown y0
          have CN := blk_regrown ((hb.new hnw).new hn2)
          refine wp_region_quiet_below (by kernel_rfl) (by kernel_rfl) ?_
          repeat (go_big_quiet_step (fail))
          refine wpQuiet_nil ?_
          rintro w3 hn3
          replace hn3 := new_of_regrown hn3
          go_wp2
          go_ret
          exact ⟨ret_i64 HR.out.symm, hw2.trans hn3⟩
        · have g1 : decide (ep < e1) = false := decide_eq_false h1
          by_cases hk0 : k = 0
          · subst hk0
            obtain rfl := hp0.out rfl
            have y0 : w2.cell? ⟨g, 0, none⟩ = some (.int .i64 e1) := by simpa using y0
            have HR : Hid (lgF ep e1 ((V.map EkV.r).drop (0 + 1)) = lgF ep 0 (V.map EkV.r)) := by unfold Hid; rw [HD.out]; simp [h1]; intro; omega
            go_wp2
            have Y0 := cell_regrown y0
            have CN := blk_regrown ((hb.new hnw).new hn2)
            refine wp_region_quiet_below (by kernel_rfl) (by kernel_rfl) ?_
            repeat (go_big_quiet_step (fail))
            refine wpQuiet_nil ?_
            rintro w3 hn3
            replace hn3 := new_of_regrown hn3
            go_wp2
            go_roundw
            case rel => exact ⟨0 + 1, e1, by omega, by go_num, hw2.trans hn3, fun h => by omega, fun _ => ⟨_, HV.out, rfl⟩, HR⟩
            case measure => simp [intOf]; omega
          · have hkp : 0 < k := by omega
            have hc2 := hprev2.out hkp
            obtain ⟨j, rfl⟩ : ∃ j, k = j + 1 := ⟨k - 1, by omega⟩
            simp only [Nat.add_sub_cancel] at hc2
            clear hkp
            have g2 : decide ((0 : Int) < (j : Int) + 1) = true := decide_eq_true (by omega)
            by_cases h2 : e1 < p
            · have HR : Hid (lgF ep 0 (V.map EkV.r) = 1) := by unfold Hid; rw [HD.out]; simp [h2]
              go_wp2
              have Y0 := cell_regrown y0
              have CN := blk_regrown ((hb.new hnw).new hn2)
              have C2 := cell_regrown hc2
              refine wp_region_quiet_below (by kernel_rfl) (by kernel_rfl) ?_
              repeat (go_big_quiet_step (fail))
              refine wpQuiet_nil ?_
              rintro w3 hn3
              replace hn3 := new_of_regrown hn3
              go_wp2
              go_ret
              exact ⟨ret_i64 HR.out.symm, hw2.trans hn3⟩
            · have HR : Hid (lgF ep e1 ((V.map EkV.r).drop (j + 1 + 1)) = lgF ep 0 (V.map EkV.r)) := by unfold Hid; rw [HD.out]; simp [h1, h2]
              go_wp2
              have Y0 := cell_regrown y0
              have CN := blk_regrown ((hb.new hnw).new hn2)
              have C2 := cell_regrown hc2
              refine wp_region_quiet_below (by kernel_rfl) (by kernel_rfl) ?_
              repeat (go_big_quiet_step (fail))
              refine wpQuiet_nil ?_
              rintro w3 hn3
              replace hn3 := new_of_regrown hn3
              go_wp2
              go_roundw
              case rel => exact ⟨j + 1 + 1, e1, by omega, by go_num, hw2.trans hn3, fun h => by omega, fun _ => ⟨_, HV.out, rfl⟩, HR⟩
              case measure => simp [intOf]; omega
      · have HR : Hid (lgF ep 0 (V.map EkV.r) = f) := by unfold Hid; rw [HD.out]; simp [hf]
        go_wp2
        go_ret
        exact ⟨ret_i64 HR.out.symm, hw2⟩
    · have HR : Hid (0 = lgF ep 0 (V.map EkV.r)) := by unfold Hid; rw [← hL.out, lgF_end ep p (by have := HN.out; omega)]
      go_wp2
      go_ret
      exact ⟨ret_i64 HR.out, hnw⟩

theorem specLFv_a (v : Int) (B : Nat) (id : Int) (up : Bool) (ro ep su ma ot co : Int) (A : Option Addr) (n c : Nat) (V : List EkV) (w : World) (hb : Blk w B 98 #[.int .i64 id, .bool up, .int .i64 ro, .int .i64 ep, .slice A n c, .int .i64 su, .int .i64 ma, .int .i64 ot, .int .i64 co, vx0, vx1, vx2, vx3, vx4, vx5, vx6, vx7, vx8]) (h : LgAt w A V) (hn : V.length = n) (hm : n ≤ 2097152) (hv : lg2 n (lgF ep 0 (V.map EkV.r)) = v) :
    Calls Tryz.prog 111 #[.pointer (some ⟨B, 0, none⟩)] w fun e w' => e = .returned (.int .i64 v) ∧ New w w' := by
  rw [← hv]
  exact specLF_a B id up ro ep su ma ot co A n c V w hb h hn hm

set_option maxHeartbeats 1600000 in
theorem sg1_a (B : Nat) (id : Int) (up : Bool) (ro ep su ma ot co : Int) (A : Option Addr) (n c : Nat) (V : List EkV) (w : World) (bN : Blk w B 98 #[.int .i64 id, .bool up, .int .i64 ro, .int .i64 ep, .slice A n c, .int .i64 su, .int .i64 ma, .int .i64 ot, .int .i64 co, vx0, vx1, vx2, vx3, vx4, vx5, vx6, vx7, vx8]) (h : LgAt w A V) (hn : V.length = n) (hm : n ≤ 2097152) (hid : id < 0 ∨ 1 < id) :
    Calls Tryz.prog 87 #[.pointer (some ⟨B, 0, none⟩)] w fun e w' => e = .returned (.int .i64 3) ∧ New w w' := by
  have cN := bN.cells
  go_enter Tryz.func87, Tryz.ntmps87
  go_wp2_with fail
  refine (in_no id 0 1 _ hid).mono ?_
  rintro e w1 ⟨rfl, rfl⟩
  go_wp2
  go_ret
  exact ⟨rfl, New.refl _⟩

set_option maxHeartbeats 1600000 in
theorem sg2_a (B : Nat) (id : Int) (up : Bool) (ro ep su ma ot co : Int) (A : Option Addr) (n c : Nat) (V : List EkV) (w : World) (bN : Blk w B 98 #[.int .i64 id, .bool up, .int .i64 ro, .int .i64 ep, .slice A n c, .int .i64 su, .int .i64 ma, .int .i64 ot, .int .i64 co, vx0, vx1, vx2, vx3, vx4, vx5, vx6, vx7, vx8]) (h : LgAt w A V) (hn : V.length = n) (hm : n ≤ 2097152) (hid : 0 ≤ id ∧ id ≤ 1) (hro : ro < 0 ∨ 1 < ro) :
    Calls Tryz.prog 87 #[.pointer (some ⟨B, 0, none⟩)] w fun e w' => e = .returned (.int .i64 3) ∧ New w w' := by
  have cN := bN.cells
  go_enter Tryz.func87, Tryz.ntmps87
  go_wp2_with fail
  refine (in_yes id 0 1 _ hid).mono ?_
  rintro e w1 ⟨rfl, rfl⟩
  go_wp2_with fail
  refine (in_no ro 0 1 _ hro).mono ?_
  rintro e w1 ⟨rfl, rfl⟩
  go_wp2
  go_ret
  exact ⟨rfl, New.refl _⟩

set_option maxHeartbeats 1600000 in
theorem sg3_a (B : Nat) (id : Int) (up : Bool) (ro ep su ma ot co : Int) (A : Option Addr) (n c : Nat) (V : List EkV) (w : World) (bN : Blk w B 98 #[.int .i64 id, .bool up, .int .i64 ro, .int .i64 ep, .slice A n c, .int .i64 su, .int .i64 ma, .int .i64 ot, .int .i64 co, vx0, vx1, vx2, vx3, vx4, vx5, vx6, vx7, vx8]) (h : LgAt w A V) (hn : V.length = n) (hm : n ≤ 2097152) (hid : 0 ≤ id ∧ id ≤ 1) (hro : 0 ≤ ro ∧ ro ≤ 1) (hep : ep < 0 ∨ 1000 < ep) :
    Calls Tryz.prog 87 #[.pointer (some ⟨B, 0, none⟩)] w fun e w' => e = .returned (.int .i64 3) ∧ New w w' := by
  have cN := bN.cells
  go_enter Tryz.func87, Tryz.ntmps87
  go_wp2_with fail
  refine (in_yes id 0 1 _ hid).mono ?_
  rintro e w1 ⟨rfl, rfl⟩
  go_wp2_with fail
  refine (in_yes ro 0 1 _ hro).mono ?_
  rintro e w1 ⟨rfl, rfl⟩
  go_wp2_with fail
  refine (in_no ep 0 1000 _ hep).mono ?_
  rintro e w1 ⟨rfl, rfl⟩
  go_wp2
  go_ret
  exact ⟨rfl, New.refl _⟩

set_option maxHeartbeats 1600000 in
theorem sg5_a (B : Nat) (id : Int) (up : Bool) (ro ep su ma ot co : Int) (A : Option Addr) (n c : Nat) (V : List EkV) (w : World) (bN : Blk w B 98 #[.int .i64 id, .bool up, .int .i64 ro, .int .i64 ep, .slice A n c, .int .i64 su, .int .i64 ma, .int .i64 ot, .int .i64 co, vx0, vx1, vx2, vx3, vx4, vx5, vx6, vx7, vx8]) (h : LgAt w A V) (hn : V.length = n) (hm : n ≤ 2097152) (hid : 0 ≤ id ∧ id ≤ 1) (hro : 0 ≤ ro ∧ ro ≤ 1) (hep : 0 ≤ ep ∧ ep ≤ 1000) (f : Int) (hlg : lg2 n (lgF ep 0 (V.map EkV.r)) = f) (hf : ¬ f = 0) :
    Calls Tryz.prog 87 #[.pointer (some ⟨B, 0, none⟩)] w fun e w' => e = .returned (.int .i64 f) ∧ New w w' := by
  have cN := bN.cells
  go_enter Tryz.func87, Tryz.ntmps87
  go_wp2_with fail
  refine (in_yes id 0 1 _ hid).mono ?_
  rintro e w1 ⟨rfl, rfl⟩
  go_wp2_with fail
  refine (in_yes ro 0 1 _ hro).mono ?_
  rintro e w1 ⟨rfl, rfl⟩
  go_wp2_with fail
  refine (in_yes ep 0 1000 _ hep).mono ?_
  rintro e w1 ⟨rfl, rfl⟩
  go_wp2_with fail
  refine (specLFv_a f B id up ro ep su ma ot co A n c V _ bN h hn hm hlg).mono ?_
  rintro e w2 ⟨rfl, hw2⟩
  have b2_a := bN.new hw2
  have c2 := b2_a.cells
  clear cN
  go_wp2
  go_ret
  exact ⟨rfl, hw2⟩

set_option maxHeartbeats 1600000 in
theorem sg7_a (B : Nat) (id : Int) (up : Bool) (ro ep su ma ot co : Int) (A : Option Addr) (n c : Nat) (V : List EkV) (w : World) (bN : Blk w B 98 #[.int .i64 id, .bool up, .int .i64 ro, .int .i64 ep, .slice A n c, .int .i64 su, .int .i64 ma, .int .i64 ot, .int .i64 co, vx0, vx1, vx2, vx3, vx4, vx5, vx6, vx7, vx8]) (h : LgAt w A V) (hn : V.length = n) (hm : n ≤ 2097152) (hid : 0 ≤ id ∧ id ≤ 1) (hro : 0 ≤ ro ∧ ro ≤ 1) (hep : 0 ≤ ep ∧ ep ≤ 1000) (hlg : lg2 n (lgF ep 0 (V.map EkV.r)) = 0) (hsu : su < 0 ∨ (n : Int) < su) :
    Calls Tryz.prog 87 #[.pointer (some ⟨B, 0, none⟩)] w fun e w' => e = .returned (.int .i64 3) ∧ New w w' := by
  have cN := bN.cells
  go_enter Tryz.func87, Tryz.ntmps87
  go_wp2_with fail
  refine (in_yes id 0 1 _ hid).mono ?_
  rintro e w1 ⟨rfl, rfl⟩
  go_wp2_with fail
  refine (in_yes ro 0 1 _ hro).mono ?_
  rintro e w1 ⟨rfl, rfl⟩
  go_wp2_with fail
  refine (in_yes ep 0 1000 _ hep).mono ?_
  rintro e w1 ⟨rfl, rfl⟩
  go_wp2_with fail
  refine (specLFv_a 0 B id up ro ep su ma ot co A n c V _ bN h hn hm hlg).mono ?_
  rintro e w2 ⟨rfl, hw2⟩
  have b2_a := bN.new hw2
  have c2 := b2_a.cells
  clear cN
  go_wp2_with fail
  have CN := blk_regrown b2_a
  refine wp_region_quiet_below (by kernel_rfl) (by kernel_rfl) ?_
  repeat (go_big_quiet_step ((first | (go_at_call_of 88 (n : Int); (first | (go_at_call_of 88 su; exact calls_regrown_same (in_no su 0 n _ hsu)))))))
  refine wpQuiet_nil ?_
  rintro w3 hn3
  replace hn3 := new_of_regrown hn3
  have b3_a := b2_a.new hn3
  have c3 := b3_a.cells
  have hw3 := hw2.trans hn3
  clear CN c2
  go_wp2
  go_ret
  exact ⟨rfl, hw3⟩

set_option maxHeartbeats 1600000 in
theorem sg8_a (B : Nat) (id : Int) (up : Bool) (ro ep su ma ot co : Int) (A : Option Addr) (n c : Nat) (V : List EkV) (w : World) (bN : Blk w B 98 #[.int .i64 id, .bool up, .int .i64 ro, .int .i64 ep, .slice A n c, .int .i64 su, .int .i64 ma, .int .i64 ot, .int .i64 co, vx0, vx1, vx2, vx3, vx4, vx5, vx6, vx7, vx8]) (h : LgAt w A V) (hn : V.length = n) (hm : n ≤ 2097152) (hid : 0 ≤ id ∧ id ≤ 1) (hro : 0 ≤ ro ∧ ro ≤ 1) (hep : 0 ≤ ep ∧ ep ≤ 1000) (hlg : lg2 n (lgF ep 0 (V.map EkV.r)) = 0) (hsu : 0 ≤ su ∧ su ≤ n) (hma : ma < 0 ∨ (n : Int) < ma) :
    Calls Tryz.prog 87 #[.pointer (some ⟨B, 0, none⟩)] w fun e w' => e = .returned (.int .i64 3) ∧ New w w' := by
  have cN := bN.cells
  go_enter Tryz.func87, Tryz.ntmps87
  go_wp2_with fail
  refine (in_yes id 0 1 _ hid).mono ?_
  rintro e w1 ⟨rfl, rfl⟩
  go_wp2_with fail
  refine (in_yes ro 0 1 _ hro).mono ?_
  rintro e w1 ⟨rfl, rfl⟩
  go_wp2_with fail
  refine (in_yes ep 0 1000 _ hep).mono ?_
  rintro e w1 ⟨rfl, rfl⟩
  go_wp2_with fail
  refine (specLFv_a 0 B id up ro ep su ma ot co A n c V _ bN h hn hm hlg).mono ?_
  rintro e w2 ⟨rfl, hw2⟩
  have b2_a := bN.new hw2
  have c2 := b2_a.cells
  clear cN
  go_wp2_with fail
  have CN := blk_regrown b2_a
  refine wp_region_quiet_below (by kernel_rfl) (by kernel_rfl) ?_
  repeat (go_big_quiet_step ((first | (go_at_call_of 88 (n : Int); (first | (go_at_call_of 88 su; exact calls_regrown_same (in_yes su 0 n _ hsu)) | (go_at_call_of 88 ma; exact calls_regrown_same (in_no ma 0 n _ hma)))))))
  refine wpQuiet_nil ?_
  rintro w3 hn3
  replace hn3 := new_of_regrown hn3
  have b3_a := b2_a.new hn3
  have c3 := b3_a.cells
  have hw3 := hw2.trans hn3
  clear CN c2
  go_wp2
  go_ret
  exact ⟨rfl, hw3⟩

set_option maxHeartbeats 1600000 in
theorem sg9_a (B : Nat) (id : Int) (up : Bool) (ro ep su ma ot co : Int) (A : Option Addr) (n c : Nat) (V : List EkV) (w : World) (bN : Blk w B 98 #[.int .i64 id, .bool up, .int .i64 ro, .int .i64 ep, .slice A n c, .int .i64 su, .int .i64 ma, .int .i64 ot, .int .i64 co, vx0, vx1, vx2, vx3, vx4, vx5, vx6, vx7, vx8]) (h : LgAt w A V) (hn : V.length = n) (hm : n ≤ 2097152) (hid : 0 ≤ id ∧ id ≤ 1) (hro : 0 ≤ ro ∧ ro ≤ 1) (hep : 0 ≤ ep ∧ ep ≤ 1000) (hlg : lg2 n (lgF ep 0 (V.map EkV.r)) = 0) (hsu : 0 ≤ su ∧ su ≤ n) (hma : 0 ≤ ma ∧ ma ≤ n) (hot : ot < 0 ∨ (n : Int) < ot) :
    Calls Tryz.prog 87 #[.pointer (some ⟨B, 0, none⟩)] w fun e w' => e = .returned (.int .i64 3) ∧ New w w' := by
  have cN := bN.cells
  go_enter Tryz.func87, Tryz.ntmps87
  go_wp2_with fail
  refine (in_yes id 0 1 _ hid).mono ?_
  rintro e w1 ⟨rfl, rfl⟩
  go_wp2_with fail
  refine (in_yes ro 0 1 _ hro).mono ?_
  rintro e w1 ⟨rfl, rfl⟩
  go_wp2_with fail
  refine (in_yes ep 0 1000 _ hep).mono ?_
  rintro e w1 ⟨rfl, rfl⟩
  go_wp2_with fail
  refine (specLFv_a 0 B id up ro ep su ma ot co A n c V _ bN h hn hm hlg).mono ?_
  rintro e w2 ⟨rfl, hw2⟩
  have b2_a := bN.new hw2
  have c2 := b2_a.cells
  clear cN
  go_wp2_with fail
  have CN := blk_regrown b2_a
  refine wp_region_quiet_below (by kernel_rfl) (by kernel_rfl) ?_
  repeat (go_big_quiet_step ((first | (go_at_call_of 88 (n : Int); (first | (go_at_call_of 88 su; exact calls_regrown_same (in_yes su 0 n _ hsu)) | (go_at_call_of 88 ma; exact calls_regrown_same (in_yes ma 0 n _ hma)) | (go_at_call_of 88 ot; exact calls_regrown_same (in_no ot 0 n _ hot)))))))
  refine wpQuiet_nil ?_
  rintro w3 hn3
  replace hn3 := new_of_regrown hn3
  have b3_a := b2_a.new hn3
  have c3 := b3_a.cells
  have hw3 := hw2.trans hn3
  clear CN c2
  go_wp2
  go_ret
  exact ⟨rfl, hw3⟩

set_option maxHeartbeats 1600000 in
theorem sg10_a (B : Nat) (id : Int) (up : Bool) (ro ep su ma ot co : Int) (A : Option Addr) (n c : Nat) (V : List EkV) (w : World) (bN : Blk w B 98 #[.int .i64 id, .bool up, .int .i64 ro, .int .i64 ep, .slice A n c, .int .i64 su, .int .i64 ma, .int .i64 ot, .int .i64 co, vx0, vx1, vx2, vx3, vx4, vx5, vx6, vx7, vx8]) (h : LgAt w A V) (hn : V.length = n) (hm : n ≤ 2097152) (hid : 0 ≤ id ∧ id ≤ 1) (hro : 0 ≤ ro ∧ ro ≤ 1) (hep : 0 ≤ ep ∧ ep ≤ 1000) (hlg : lg2 n (lgF ep 0 (V.map EkV.r)) = 0) (hsu : 0 ≤ su ∧ su ≤ n) (hma : 0 ≤ ma ∧ ma ≤ n) (hot : 0 ≤ ot ∧ ot ≤ n) (hco : co < 0 ∨ su < co) :
    Calls Tryz.prog 87 #[.pointer (some ⟨B, 0, none⟩)] w fun e w' => e = .returned (.int .i64 3) ∧ New w w' := by
  have cN := bN.cells
  go_enter Tryz.func87, Tryz.ntmps87
  go_wp2_with fail
  refine (in_yes id 0 1 _ hid).mono ?_
  rintro e w1 ⟨rfl, rfl⟩
  go_wp2_with fail
  refine (in_yes ro 0 1 _ hro).mono ?_
  rintro e w1 ⟨rfl, rfl⟩
  go_wp2_with fail
  refine (in_yes ep 0 1000 _ hep).mono ?_
  rintro e w1 ⟨rfl, rfl⟩
  go_wp2_with fail
  refine (specLFv_a 0 B id up ro ep su ma ot co A n c V _ bN h hn hm hlg).mono ?_
  rintro e w2 ⟨rfl, hw2⟩
  have b2_a := bN.new hw2
  have c2 := b2_a.cells
  clear cN
  go_wp2_with fail
  have CN := blk_regrown b2_a
  refine wp_region_quiet_below (by kernel_rfl) (by kernel_rfl) ?_
  repeat (go_big_quiet_step ((first | (go_at_call_of 88 (n : Int); (first | (go_at_call_of 88 su; exact calls_regrown_same (in_yes su 0 n _ hsu)) | (go_at_call_of 88 ma; exact calls_regrown_same (in_yes ma 0 n _ hma)) | (go_at_call_of 88 ot; exact calls_regrown_same (in_yes ot 0 n _ hot)))) | exact calls_regrown_same (in_no co 0 su _ hco))))
  refine wpQuiet_nil ?_
  rintro w3 hn3
  replace hn3 := new_of_regrown hn3
  have b3_a := b2_a.new hn3
  have c3 := b3_a.cells
  have hw3 := hw2.trans hn3
  clear CN c2
  go_wp2
  go_ret
  exact ⟨rfl, hw3⟩

set_option maxHeartbeats 1600000 in
theorem a1_a (B : Nat) (id : Int) (ep su ma ot co : Int) (A : Option Addr) (n c : Nat) (V : List EkV) (w : World) (bN : Blk w B 98 #[.int .i64 id, .bool false, .int .i64 1, .int .i64 ep, .slice A n c, .int .i64 su, .int .i64 ma, .int .i64 ot, .int .i64 co, vx0, vx1, vx2, vx3, vx4, vx5, vx6, vx7, vx8]) (h : LgAt w A V) (hn : V.length = n) (hm : n ≤ 2097152) (hid : 0 ≤ id ∧ id ≤ 1) (hro : 0 ≤ (1 : Int) ∧ (1 : Int) ≤ 1) (hep : 0 ≤ ep ∧ ep ≤ 1000) (hlg : lg2 n (lgF ep 0 (V.map EkV.r)) = 0) (hsu : 0 ≤ su ∧ su ≤ n) (hma : 0 ≤ ma ∧ ma ≤ n) (hot : 0 ≤ ot ∧ ot ≤ n) (hco : 0 ≤ co ∧ co ≤ su) :
    Calls Tryz.prog 87 #[.pointer (some ⟨B, 0, none⟩)] w fun e w' => e = .returned (.int .i64 1) ∧ New w w' := by
  have cN := bN.cells
  go_enter Tryz.func87, Tryz.ntmps87
  go_wp2_with fail
  refine (in_yes id 0 1 _ hid).mono ?_
  rintro e w1 ⟨rfl, rfl⟩
  go_wp2_with fail
  refine (in_yes (1 : Int) 0 1 _ hro).mono ?_
  rintro e w1 ⟨rfl, rfl⟩
  go_wp2_with fail
  refine (in_yes ep 0 1000 _ hep).mono ?_
  rintro e w1 ⟨rfl, rfl⟩
  go_wp2_with fail
  refine (specLFv_a 0 B id false 1 ep su ma ot co A n c V _ bN h hn hm hlg).mono ?_
  rintro e w2 ⟨rfl, hw2⟩
  have b2_a := bN.new hw2
  have c2 := b2_a.cells
  clear cN
  go_wp2_with fail
  have CN := blk_regrown b2_a
  refine wp_region_quiet_below (by kernel_rfl) (by kernel_rfl) ?_
  repeat (go_big_quiet_step ((first | (go_at_call_of 88 (n : Int); (first | (go_at_call_of 88 su; exact calls_regrown_same (in_yes su 0 n _ hsu)) | (go_at_call_of 88 ma; exact calls_regrown_same (in_yes ma 0 n _ hma)) | (go_at_call_of 88 ot; exact calls_regrown_same (in_yes ot 0 n _ hot)))) | exact calls_regrown_same (in_yes co 0 su _ hco))))
  refine wpQuiet_nil ?_
  rintro w3 hn3
  replace hn3 := new_of_regrown hn3
  have b3_a := b2_a.new hn3
  have c3 := b3_a.cells
  have hw3 := hw2.trans hn3
  clear CN c2
  go_wp2
  go_ret
  exact ⟨rfl, hw3⟩

set_option maxHeartbeats 1600000 in
theorem a2_a (B : Nat) (id : Int) (su ma ot co : Int) (A : Option Addr) (n c : Nat) (V : List EkV) (w : World) (bN : Blk w B 98 #[.int .i64 id, .bool true, .int .i64 1, .int .i64 0, .slice A n c, .int .i64 su, .int .i64 ma, .int .i64 ot, .int .i64 co, vx0, vx1, vx2, vx3, vx4, vx5, vx6, vx7, vx8]) (h : LgAt w A V) (hn : V.length = n) (hm : n ≤ 2097152) (hid : 0 ≤ id ∧ id ≤ 1) (hro : 0 ≤ (1 : Int) ∧ (1 : Int) ≤ 1) (hep : 0 ≤ (0 : Int) ∧ (0 : Int) ≤ 1000) (hlg : lg2 n (lgF (0 : Int) 0 (V.map EkV.r)) = 0) (hsu : 0 ≤ su ∧ su ≤ n) (hma : 0 ≤ ma ∧ ma ≤ n) (hot : 0 ≤ ot ∧ ot ≤ n) (hco : 0 ≤ co ∧ co ≤ su) :
    Calls Tryz.prog 87 #[.pointer (some ⟨B, 0, none⟩)] w fun e w' => e = .returned (.int .i64 1) ∧ New w w' := by
  have cN := bN.cells
  go_enter Tryz.func87, Tryz.ntmps87
  go_wp2_with fail
  refine (in_yes id 0 1 _ hid).mono ?_
  rintro e w1 ⟨rfl, rfl⟩
  go_wp2_with fail
  refine (in_yes (1 : Int) 0 1 _ hro).mono ?_
  rintro e w1 ⟨rfl, rfl⟩
  go_wp2_with fail
  refine (in_yes (0 : Int) 0 1000 _ hep).mono ?_
  rintro e w1 ⟨rfl, rfl⟩
  go_wp2_with fail
  refine (specLFv_a 0 B id true 1 0 su ma ot co A n c V _ bN h hn hm hlg).mono ?_
  rintro e w2 ⟨rfl, hw2⟩
  have b2_a := bN.new hw2
  have c2 := b2_a.cells
  clear cN
  go_wp2_with fail
  have CN := blk_regrown b2_a
  refine wp_region_quiet_below (by kernel_rfl) (by kernel_rfl) ?_
  repeat (go_big_quiet_step ((first | (go_at_call_of 88 (n : Int); (first | (go_at_call_of 88 su; exact calls_regrown_same (in_yes su 0 n _ hsu)) | (go_at_call_of 88 ma; exact calls_regrown_same (in_yes ma 0 n _ hma)) | (go_at_call_of 88 ot; exact calls_regrown_same (in_yes ot 0 n _ hot)))) | exact calls_regrown_same (in_yes co 0 su _ hco))))
  refine wpQuiet_nil ?_
  rintro w3 hn3
  replace hn3 := new_of_regrown hn3
  have b3_a := b2_a.new hn3
  have c3 := b3_a.cells
  have hw3 := hw2.trans hn3
  clear CN c2
  go_wp2
  go_ret
  exact ⟨rfl, hw3⟩

set_option maxHeartbeats 1600000 in
theorem a3_a (B : Nat) (id : Int) (ep su ma ot co : Int) (A : Option Addr) (n c : Nat) (V : List EkV) (w : World) (bN : Blk w B 98 #[.int .i64 id, .bool true, .int .i64 1, .int .i64 ep, .slice A n c, .int .i64 su, .int .i64 ma, .int .i64 ot, .int .i64 co, vx0, vx1, vx2, vx3, vx4, vx5, vx6, vx7, vx8]) (h : LgAt w A V) (hn : V.length = n) (hm : n ≤ 2097152) (hid : 0 ≤ id ∧ id ≤ 1) (hro : 0 ≤ (1 : Int) ∧ (1 : Int) ≤ 1) (hep : 0 ≤ ep ∧ ep ≤ 1000) (hlg : lg2 n (lgF ep 0 (V.map EkV.r)) = 0) (hsu : 0 ≤ su ∧ su ≤ n) (hma : 0 ≤ ma ∧ ma ≤ n) (hot : 0 ≤ ot ∧ ot ≤ n) (hco : 0 ≤ co ∧ co ≤ su) (he : ¬ ep = 0) (hm1 : ¬ ma = 0) :
    Calls Tryz.prog 87 #[.pointer (some ⟨B, 0, none⟩)] w fun e w' => e = .returned (.int .i64 1) ∧ New w w' := by
  have cN := bN.cells
  have gep : (ep == 0) = false := by simp [he]
  have kep : (ep != 0) = true := by simp [he]
  have gma : (ma == 0) = false := by simp [hm1]
  have kma : (ma != 0) = true := by simp [hm1]
  go_enter Tryz.func87, Tryz.ntmps87
  go_wp2_with fail
  refine (in_yes id 0 1 _ hid).mono ?_
  rintro e w1 ⟨rfl, rfl⟩
  go_wp2_with fail
  refine (in_yes (1 : Int) 0 1 _ hro).mono ?_
  rintro e w1 ⟨rfl, rfl⟩
  go_wp2_with fail
  refine (in_yes ep 0 1000 _ hep).mono ?_
  rintro e w1 ⟨rfl, rfl⟩
  go_wp2_with fail
  refine (specLFv_a 0 B id true 1 ep su ma ot co A n c V _ bN h hn hm hlg).mono ?_
  rintro e w2 ⟨rfl, hw2⟩
  have b2_a := bN.new hw2
  have c2 := b2_a.cells
  clear cN
  go_wp2_with fail
  have CN := blk_regrown b2_a
  refine wp_region_quiet_below (by kernel_rfl) (by kernel_rfl) ?_
  repeat (go_big_quiet_step ((first | (go_at_call_of 88 (n : Int); (first | (go_at_call_of 88 su; exact calls_regrown_same (in_yes su 0 n _ hsu)) | (go_at_call_of 88 ma; exact calls_regrown_same (in_yes ma 0 n _ hma)) | (go_at_call_of 88 ot; exact calls_regrown_same (in_yes ot 0 n _ hot)))) | exact calls_regrown_same (in_yes co 0 su _ hco))))
  refine wpQuiet_nil ?_
  rintro w3 hn3
  replace hn3 := new_of_regrown hn3
  have b3_a := b2_a.new hn3
  have c3 := b3_a.cells
  have hw3 := hw2.trans hn3
  clear CN c2
  go_wp2
  go_ret
  exact ⟨rfl, hw3⟩

set_option maxHeartbeats 1600000 in
theorem a4_a (B : Nat) (id : Int) (ep su ot co : Int) (A : Option Addr) (n c : Nat) (V : List EkV) (w : World) (bN : Blk w B 98 #[.int .i64 id, .bool true, .int .i64 1, .int .i64 ep, .slice A n c, .int .i64 su, .int .i64 0, .int .i64 ot, .int .i64 co, vx0, vx1, vx2, vx3, vx4, vx5, vx6, vx7, vx8]) (h : LgAt w A V) (hn : V.length = n) (hm : n ≤ 2097152) (hid : 0 ≤ id ∧ id ≤ 1) (hro : 0 ≤ (1 : Int) ∧ (1 : Int) ≤ 1) (hep : 0 ≤ ep ∧ ep ≤ 1000) (hlg : lg2 n (lgF ep 0 (V.map EkV.r)) = 0) (hsu : 0 ≤ su ∧ su ≤ n) (hma : 0 ≤ (0 : Int) ∧ (0 : Int) ≤ n) (hot : 0 ≤ ot ∧ ot ≤ n) (hco : 0 ≤ co ∧ co ≤ su) (he : ¬ ep = 0) :
    Calls Tryz.prog 87 #[.pointer (some ⟨B, 0, none⟩)] w fun e w' => e = .returned (.int .i64 0) ∧ New w w' := by
  have cN := bN.cells
  have gep : (ep == 0) = false := by simp [he]
  have kep : (ep != 0) = true := by simp [he]
  go_enter Tryz.func87, Tryz.ntmps87
  go_wp2_with fail
  refine (in_yes id 0 1 _ hid).mono ?_
  rintro e w1 ⟨rfl, rfl⟩
  go_wp2_with fail
  refine (in_yes (1 : Int) 0 1 _ hro).mono ?_
  rintro e w1 ⟨rfl, rfl⟩
  go_wp2_with fail
  refine (in_yes ep 0 1000 _ hep).mono ?_
  rintro e w1 ⟨rfl, rfl⟩
  go_wp2_with fail
  refine (specLFv_a 0 B id true 1 ep su 0 ot co A n c V _ bN h hn hm hlg).mono ?_
  rintro e w2 ⟨rfl, hw2⟩
  have b2_a := bN.new hw2
  have c2 := b2_a.cells
  clear cN
  go_wp2_with fail
  have CN := blk_regrown b2_a
  refine wp_region_quiet_below (by kernel_rfl) (by kernel_rfl) ?_
  repeat (go_big_quiet_step ((first | (go_at_call_of 88 (n : Int); (first | (go_at_call_of 88 su; exact calls_regrown_same (in_yes su 0 n _ hsu)) | (go_at_call_of 88 ot; exact calls_regrown_same (in_yes ot 0 n _ hot)) | (go_at_call_of 88 (0 : Int); exact calls_regrown_same (in_yes (0 : Int) 0 n _ hma)))) | exact calls_regrown_same (in_yes co 0 su _ hco))))
  refine wpQuiet_nil ?_
  rintro w3 hn3
  replace hn3 := new_of_regrown hn3
  have b3_a := b2_a.new hn3
  have c3 := b3_a.cells
  have hw3 := hw2.trans hn3
  clear CN c2
  go_wp2
  go_ret
  exact ⟨rfl, hw3⟩

set_option maxHeartbeats 1600000 in
theorem b1_a (B : Nat) (id : Int) (up : Bool) (ro ep su ma ot co : Int) (A : Option Addr) (n c : Nat) (V : List EkV) (w : World) (bN : Blk w B 98 #[.int .i64 id, .bool up, .int .i64 ro, .int .i64 ep, .slice A n c, .int .i64 su, .int .i64 ma, .int .i64 ot, .int .i64 co, vx0, vx1, vx2, vx3, vx4, vx5, vx6, vx7, vx8]) (h : LgAt w A V) (hn : V.length = n) (hm : n ≤ 2097152) (hid : 0 ≤ id ∧ id ≤ 1) (hro : 0 ≤ ro ∧ ro ≤ 1) (hep : 0 ≤ ep ∧ ep ≤ 1000) (hlg : lg2 n (lgF ep 0 (V.map EkV.r)) = 0) (hsu : 0 ≤ su ∧ su ≤ n) (hma : 0 ≤ ma ∧ ma ≤ n) (hot : 0 ≤ ot ∧ ot ≤ n) (hco : 0 ≤ co ∧ co ≤ su) (hr : ¬ ro = 1) (ho : ¬ ot = 0) :
    Calls Tryz.prog 87 #[.pointer (some ⟨B, 0, none⟩)] w fun e w' => e = .returned (.int .i64 1) ∧ New w w' := by
  have cN := bN.cells
  have gro : (ro == 1) = false := by simp [hr]
  have kro : (ro != 1) = true := by simp [hr]
  have got : (ot == 0) = false := by simp [ho]
  have kot : (ot != 0) = true := by simp [ho]
  go_enter Tryz.func87, Tryz.ntmps87
  go_wp2_with fail
  refine (in_yes id 0 1 _ hid).mono ?_
  rintro e w1 ⟨rfl, rfl⟩
  go_wp2_with fail
  refine (in_yes ro 0 1 _ hro).mono ?_
  rintro e w1 ⟨rfl, rfl⟩
  go_wp2_with fail
  refine (in_yes ep 0 1000 _ hep).mono ?_
  rintro e w1 ⟨rfl, rfl⟩
  go_wp2_with fail
  refine (specLFv_a 0 B id up ro ep su ma ot co A n c V _ bN h hn hm hlg).mono ?_
  rintro e w2 ⟨rfl, hw2⟩
  have b2_a := bN.new hw2
  have c2 := b2_a.cells
  clear cN
  go_wp2_with fail
  have CN := blk_regrown b2_a
  refine wp_region_quiet_below (by kernel_rfl) (by kernel_rfl) ?_
  repeat (go_big_quiet_step ((first | (go_at_call_of 88 (n : Int); (first | (go_at_call_of 88 su; exact calls_regrown_same (in_yes su 0 n _ hsu)) | (go_at_call_of 88 ma; exact calls_regrown_same (in_yes ma 0 n _ hma)) | (go_at_call_of 88 ot; exact calls_regrown_same (in_yes ot 0 n _ hot)))) | exact calls_regrown_same (in_yes co 0 su _ hco))))
  refine wpQuiet_nil ?_
  rintro w3 hn3
  replace hn3 := new_of_regrown hn3
  have b3_a := b2_a.new hn3
  have c3 := b3_a.cells
  have hw3 := hw2.trans hn3
  clear CN c2
  go_wp2
  go_ret
  exact ⟨rfl, hw3⟩

set_option maxHeartbeats 1600000 in
theorem b2_a (B : Nat) (id : Int) (ro ep su ma co : Int) (A : Option Addr) (n c : Nat) (V : List EkV) (w : World) (bN : Blk w B 98 #[.int .i64 id, .bool true, .int .i64 ro, .int .i64 ep, .slice A n c, .int .i64 su, .int .i64 ma, .int .i64 0, .int .i64 co, vx0, vx1, vx2, vx3, vx4, vx5, vx6, vx7, vx8]) (h : LgAt w A V) (hn : V.length = n) (hm : n ≤ 2097152) (hid : 0 ≤ id ∧ id ≤ 1) (hro : 0 ≤ ro ∧ ro ≤ 1) (hep : 0 ≤ ep ∧ ep ≤ 1000) (hlg : lg2 n (lgF ep 0 (V.map EkV.r)) = 0) (hsu : 0 ≤ su ∧ su ≤ n) (hma : 0 ≤ ma ∧ ma ≤ n) (hot : 0 ≤ (0 : Int) ∧ (0 : Int) ≤ n) (hco : 0 ≤ co ∧ co ≤ su) (hr : ¬ ro = 1) :
    Calls Tryz.prog 87 #[.pointer (some ⟨B, 0, none⟩)] w fun e w' => e = .returned (.int .i64 0) ∧ New w w' := by
  have cN := bN.cells
  have gro : (ro == 1) = false := by simp [hr]
  have kro : (ro != 1) = true := by simp [hr]
  go_enter Tryz.func87, Tryz.ntmps87
  go_wp2_with fail
  refine (in_yes id 0 1 _ hid).mono ?_
  rintro e w1 ⟨rfl, rfl⟩
  go_wp2_with fail
  refine (in_yes ro 0 1 _ hro).mono ?_
  rintro e w1 ⟨rfl, rfl⟩
  go_wp2_with fail
  refine (in_yes ep 0 1000 _ hep).mono ?_
  rintro e w1 ⟨rfl, rfl⟩
  go_wp2_with fail
  refine (specLFv_a 0 B id true ro ep su ma 0 co A n c V _ bN h hn hm hlg).mono ?_
  rintro e w2 ⟨rfl, hw2⟩
  have b2_a := bN.new hw2
  have c2 := b2_a.cells
  clear cN
  go_wp2_with fail
  have CN := blk_regrown b2_a
  refine wp_region_quiet_below (by kernel_rfl) (by kernel_rfl) ?_
  repeat (go_big_quiet_step ((first | (go_at_call_of 88 (n : Int); (first | (go_at_call_of 88 su; exact calls_regrown_same (in_yes su 0 n _ hsu)) | (go_at_call_of 88 ma; exact calls_regrown_same (in_yes ma 0 n _ hma)) | (go_at_call_of 88 (0 : Int); exact calls_regrown_same (in_yes (0 : Int) 0 n _ hot)))) | exact calls_regrown_same (in_yes co 0 su _ hco))))
  refine wpQuiet_nil ?_
  rintro w3 hn3
  replace hn3 := new_of_regrown hn3
  have b3_a := b2_a.new hn3
  have c3 := b3_a.cells
  have hw3 := hw2.trans hn3
  clear CN c2
  go_wp2
  go_ret
  exact ⟨rfl, hw3⟩

set_option maxHeartbeats 1600000 in
theorem b3_a (B : Nat) (id : Int) (ro ep su ma co : Int) (A : Option Addr) (n c : Nat) (V : List EkV) (w : World) (bN : Blk w B 98 #[.int .i64 id, .bool false, .int .i64 ro, .int .i64 ep, .slice A n c, .int .i64 su, .int .i64 ma, .int .i64 0, .int .i64 co, vx0, vx1, vx2, vx3, vx4, vx5, vx6, vx7, vx8]) (h : LgAt w A V) (hn : V.length = n) (hm : n ≤ 2097152) (hid : 0 ≤ id ∧ id ≤ 1) (hro : 0 ≤ ro ∧ ro ≤ 1) (hep : 0 ≤ ep ∧ ep ≤ 1000) (hlg : lg2 n (lgF ep 0 (V.map EkV.r)) = 0) (hsu : 0 ≤ su ∧ su ≤ n) (hma : 0 ≤ ma ∧ ma ≤ n) (hot : 0 ≤ (0 : Int) ∧ (0 : Int) ≤ n) (hco : 0 ≤ co ∧ co ≤ su) (hr : ¬ ro = 1) (hs : ¬ su = n) :
    Calls Tryz.prog 87 #[.pointer (some ⟨B, 0, none⟩)] w fun e w' => e = .returned (.int .i64 1) ∧ New w w' := by
  have cN := bN.cells
  have gro : (ro == 1) = false := by simp [hr]
  have kro : (ro != 1) = true := by simp [hr]
  have gsu : (su == (n : Int)) = false := by simp [hs]
  have ksu : (su != (n : Int)) = true := by simp [hs]
  go_enter Tryz.func87, Tryz.ntmps87
  go_wp2_with fail
  refine (in_yes id 0 1 _ hid).mono ?_
  rintro e w1 ⟨rfl, rfl⟩
  go_wp2_with fail
  refine (in_yes ro 0 1 _ hro).mono ?_
  rintro e w1 ⟨rfl, rfl⟩
  go_wp2_with fail
  refine (in_yes ep 0 1000 _ hep).mono ?_
  rintro e w1 ⟨rfl, rfl⟩
  go_wp2_with fail
  refine (specLFv_a 0 B id false ro ep su ma 0 co A n c V _ bN h hn hm hlg).mono ?_
  rintro e w2 ⟨rfl, hw2⟩
  have b2_a := bN.new hw2
  have c2 := b2_a.cells
  clear cN
  go_wp2_with fail
  have CN := blk_regrown b2_a
  refine wp_region_quiet_below (by kernel_rfl) (by kernel_rfl) ?_
  repeat (go_big_quiet_step ((first | (go_at_call_of 88 (n : Int); (first | (go_at_call_of 88 su; exact calls_regrown_same (in_yes su 0 n _ hsu)) | (go_at_call_of 88 ma; exact calls_regrown_same (in_yes ma 0 n _ hma)) | (go_at_call_of 88 (0 : Int); exact calls_regrown_same (in_yes (0 : Int) 0 n _ hot)))) | exact calls_regrown_same (in_yes co 0 su _ hco))))
  refine wpQuiet_nil ?_
  rintro w3 hn3
  replace hn3 := new_of_regrown hn3
  have b3_a := b2_a.new hn3
  have c3 := b3_a.cells
  have hw3 := hw2.trans hn3
  clear CN c2
  go_wp2
  go_ret
  exact ⟨rfl, hw3⟩

set_option maxHeartbeats 1600000 in
theorem b4_a (B : Nat) (id : Int) (ro ep su ma co : Int) (A : Option Addr) (n c : Nat) (V : List EkV) (w : World) (bN : Blk w B 98 #[.int .i64 id, .bool false, .int .i64 ro, .int .i64 ep, .slice A n c, .int .i64 su, .int .i64 ma, .int .i64 0, .int .i64 co, vx0, vx1, vx2, vx3, vx4, vx5, vx6, vx7, vx8]) (h : LgAt w A V) (hn : V.length = n) (hm : n ≤ 2097152) (hid : 0 ≤ id ∧ id ≤ 1) (hro : 0 ≤ ro ∧ ro ≤ 1) (hep : 0 ≤ ep ∧ ep ≤ 1000) (hlg : lg2 n (lgF ep 0 (V.map EkV.r)) = 0) (hsu : 0 ≤ su ∧ su ≤ n) (hma : 0 ≤ ma ∧ ma ≤ n) (hot : 0 ≤ (0 : Int) ∧ (0 : Int) ≤ n) (hco : 0 ≤ co ∧ co ≤ su) (hr : ¬ ro = 1) (hs : su = n) (hm1 : ¬ ma = 0) :
    Calls Tryz.prog 87 #[.pointer (some ⟨B, 0, none⟩)] w fun e w' => e = .returned (.int .i64 1) ∧ New w w' := by
  have cN := bN.cells
  have gro : (ro == 1) = false := by simp [hr]
  have kro : (ro != 1) = true := by simp [hr]
  have ksu : (su != (n : Int)) = false := by simp [hs]
  clear hs
  have gma : (ma == 0) = false := by simp [hm1]
  have kma : (ma != 0) = true := by simp [hm1]
  go_enter Tryz.func87, Tryz.ntmps87
  go_wp2_with fail
  refine (in_yes id 0 1 _ hid).mono ?_
  rintro e w1 ⟨rfl, rfl⟩
  go_wp2_with fail
  refine (in_yes ro 0 1 _ hro).mono ?_
  rintro e w1 ⟨rfl, rfl⟩
  go_wp2_with fail
  refine (in_yes ep 0 1000 _ hep).mono ?_
  rintro e w1 ⟨rfl, rfl⟩
  go_wp2_with fail
  refine (specLFv_a 0 B id false ro ep su ma 0 co A n c V _ bN h hn hm hlg).mono ?_
  rintro e w2 ⟨rfl, hw2⟩
  have b2_a := bN.new hw2
  have c2 := b2_a.cells
  clear cN
  go_wp2_with fail
  have CN := blk_regrown b2_a
  refine wp_region_quiet_below (by kernel_rfl) (by kernel_rfl) ?_
  repeat (go_big_quiet_step ((first | (go_at_call_of 88 (n : Int); (first | (go_at_call_of 88 su; exact calls_regrown_same (in_yes su 0 n _ hsu)) | (go_at_call_of 88 ma; exact calls_regrown_same (in_yes ma 0 n _ hma)) | (go_at_call_of 88 (0 : Int); exact calls_regrown_same (in_yes (0 : Int) 0 n _ hot)))) | exact calls_regrown_same (in_yes co 0 su _ hco))))
  refine wpQuiet_nil ?_
  rintro w3 hn3
  replace hn3 := new_of_regrown hn3
  have b3_a := b2_a.new hn3
  have c3 := b3_a.cells
  have hw3 := hw2.trans hn3
  clear CN c2
  go_wp2
  go_ret
  exact ⟨rfl, hw3⟩

set_option maxHeartbeats 1600000 in
theorem b5_a (B : Nat) (id : Int) (ro ep su co : Int) (A : Option Addr) (n c : Nat) (V : List EkV) (w : World) (bN : Blk w B 98 #[.int .i64 id, .bool false, .int .i64 ro, .int .i64 ep, .slice A n c, .int .i64 su, .int .i64 0, .int .i64 0, .int .i64 co, vx0, vx1, vx2, vx3, vx4, vx5, vx6, vx7, vx8]) (h : LgAt w A V) (hn : V.length = n) (hm : n ≤ 2097152) (hid : 0 ≤ id ∧ id ≤ 1) (hro : 0 ≤ ro ∧ ro ≤ 1) (hep : 0 ≤ ep ∧ ep ≤ 1000) (hlg : lg2 n (lgF ep 0 (V.map EkV.r)) = 0) (hsu : 0 ≤ su ∧ su ≤ n) (hma : 0 ≤ (0 : Int) ∧ (0 : Int) ≤ n) (hot : 0 ≤ (0 : Int) ∧ (0 : Int) ≤ n) (hco : 0 ≤ co ∧ co ≤ su) (hr : ¬ ro = 1) (hs : su = n) (hc : ¬ co = 0) :
    Calls Tryz.prog 87 #[.pointer (some ⟨B, 0, none⟩)] w fun e w' => e = .returned (.int .i64 1) ∧ New w w' := by
  have cN := bN.cells
  have gro : (ro == 1) = false := by simp [hr]
  have kro : (ro != 1) = true := by simp [hr]
  have ksu : (su != (n : Int)) = false := by simp [hs]
  clear hs
  have gco : (co == 0) = false := by simp [hc]
  have kco : (co != 0) = true := by simp [hc]
  go_enter Tryz.func87, Tryz.ntmps87
  go_wp2_with fail
  refine (in_yes id 0 1 _ hid).mono ?_
  rintro e w1 ⟨rfl, rfl⟩
  go_wp2_with fail
  refine (in_yes ro 0 1 _ hro).mono ?_
  rintro e w1 ⟨rfl, rfl⟩
  go_wp2_with fail
  refine (in_yes ep 0 1000 _ hep).mono ?_
  rintro e w1 ⟨rfl, rfl⟩
  go_wp2_with fail
  refine (specLFv_a 0 B id false ro ep su 0 0 co A n c V _ bN h hn hm hlg).mono ?_
  rintro e w2 ⟨rfl, hw2⟩
  have b2_a := bN.new hw2
  have c2 := b2_a.cells
  clear cN
  go_wp2_with fail
  have CN := blk_regrown b2_a
  refine wp_region_quiet_below (by kernel_rfl) (by kernel_rfl) ?_
  repeat (go_big_quiet_step ((first | (go_at_call_of 88 (n : Int); (first | (go_at_call_of 88 su; exact calls_regrown_same (in_yes su 0 n _ hsu)) | (go_at_call_of 88 (0 : Int); exact calls_regrown_same (in_yes (0 : Int) 0 n _ hma)) | (go_at_call_of 88 (0 : Int); exact calls_regrown_same (in_yes (0 : Int) 0 n _ hot)))) | exact calls_regrown_same (in_yes co 0 su _ hco))))
  refine wpQuiet_nil ?_
  rintro w3 hn3
  replace hn3 := new_of_regrown hn3
  have b3_a := b2_a.new hn3
  have c3 := b3_a.cells
  have hw3 := hw2.trans hn3
  clear CN c2
  go_wp2
  go_ret
  exact ⟨rfl, hw3⟩

set_option maxHeartbeats 1600000 in
theorem b6_a (B : Nat) (id : Int) (ro ep su : Int) (A : Option Addr) (n c : Nat) (V : List EkV) (w : World) (bN : Blk w B 98 #[.int .i64 id, .bool false, .int .i64 ro, .int .i64 ep, .slice A n c, .int .i64 su, .int .i64 0, .int .i64 0, .int .i64 0, vx0, vx1, vx2, vx3, vx4, vx5, vx6, vx7, vx8]) (h : LgAt w A V) (hn : V.length = n) (hm : n ≤ 2097152) (hid : 0 ≤ id ∧ id ≤ 1) (hro : 0 ≤ ro ∧ ro ≤ 1) (hep : 0 ≤ ep ∧ ep ≤ 1000) (hlg : lg2 n (lgF ep 0 (V.map EkV.r)) = 0) (hsu : 0 ≤ su ∧ su ≤ n) (hma : 0 ≤ (0 : Int) ∧ (0 : Int) ≤ n) (hot : 0 ≤ (0 : Int) ∧ (0 : Int) ≤ n) (hco : 0 ≤ (0 : Int) ∧ (0 : Int) ≤ su) (hr : ¬ ro = 1) (hs : su = n) :
    Calls Tryz.prog 87 #[.pointer (some ⟨B, 0, none⟩)] w fun e w' => e = .returned (.int .i64 0) ∧ New w w' := by
  have cN := bN.cells
  have gro : (ro == 1) = false := by simp [hr]
  have kro : (ro != 1) = true := by simp [hr]
  have ksu : (su != (n : Int)) = false := by simp [hs]
  clear hs
  go_enter Tryz.func87, Tryz.ntmps87
  go_wp2_with fail
  refine (in_yes id 0 1 _ hid).mono ?_
  rintro e w1 ⟨rfl, rfl⟩
  go_wp2_with fail
  refine (in_yes ro 0 1 _ hro).mono ?_
  rintro e w1 ⟨rfl, rfl⟩
  go_wp2_with fail
  refine (in_yes ep 0 1000 _ hep).mono ?_
  rintro e w1 ⟨rfl, rfl⟩
  go_wp2_with fail
  refine (specLFv_a 0 B id false ro ep su 0 0 0 A n c V _ bN h hn hm hlg).mono ?_
  rintro e w2 ⟨rfl, hw2⟩
  have b2_a := bN.new hw2
  have c2 := b2_a.cells
  clear cN
  go_wp2_with fail
  have CN := blk_regrown b2_a
  refine wp_region_quiet_below (by kernel_rfl) (by kernel_rfl) ?_
  repeat (go_big_quiet_step ((first | (go_at_call_of 88 (n : Int); (first | (go_at_call_of 88 su; exact calls_regrown_same (in_yes su 0 n _ hsu)) | (go_at_call_of 88 (0 : Int); exact calls_regrown_same (in_yes (0 : Int) 0 n _ hma)) | (go_at_call_of 88 (0 : Int); exact calls_regrown_same (in_yes (0 : Int) 0 n _ hot)))) | exact calls_regrown_same (in_yes (0 : Int) 0 su _ hco))))
  refine wpQuiet_nil ?_
  rintro w3 hn3
  replace hn3 := new_of_regrown hn3
  have b3_a := b2_a.new hn3
  have c3 := b3_a.cells
  have hw3 := hw2.trans hn3
  clear CN c2
  go_wp2
  go_ret
  exact ⟨rfl, hw3⟩

theorem specNFp_a (B : Nat) (id : Int) (up : Bool) (ro ep su ma ot co : Int) (A : Option Addr) (n c : Nat) (V : List EkV) (w : World) (bN : Blk w B 98 #[.int .i64 id, .bool up, .int .i64 ro, .int .i64 ep, .slice A n c, .int .i64 su, .int .i64 ma, .int .i64 ot, .int .i64 co, vx0, vx1, vx2, vx3, vx4, vx5, vx6, vx7, vx8]) (h : LgAt w A V) (hn : V.length = n) (hm : n ≤ 2097152) :
    Calls Tryz.prog 87 #[.pointer (some ⟨B, 0, none⟩)] w fun e w' => e = .returned (.int .i64 (nF id up ro ep su ma ot co n (V.map EkV.r))) ∧ New w w' := by
  unfold nF
  by_cases hid' : id = 0 ∨ id = 1
  case neg => rw [if_pos (fun k => hid' k.1)]; exact sg1_a B id up ro ep su ma ot co A n c V w bN h hn hm (by omega)
  have hid : 0 ≤ id ∧ id ≤ 1 := by omega
  by_cases hro' : ro = 0 ∨ ro = 1
  case neg => rw [if_pos (fun k => hro' k.2.1)]; exact sg2_a B id up ro ep su ma ot co A n c V w bN h hn hm hid (by omega)
  have hro : 0 ≤ ro ∧ ro ≤ 1 := by omega
  by_cases he0 : 0 ≤ ep
  case neg => rw [if_pos (fun k => he0 k.2.2.1)]; exact sg3_a B id up ro ep su ma ot co A n c V w bN h hn hm hid hro (by omega)
  by_cases he1 : ep ≤ 1000
  case neg => rw [if_pos (fun k => he1 k.2.2.2)]; exact sg3_a B id up ro ep su ma ot co A n c V w bN h hn hm hid hro (by omega)
  rw [if_neg (fun k => k ⟨hid', hro', he0, he1⟩)]
  have hep : 0 ≤ ep ∧ ep ≤ 1000 := ⟨he0, he1⟩
  by_cases hn1 : 100 < n
  case pos => rw [if_pos hn1]; exact sg5_a B id up ro ep su ma ot co A n c V w bN h hn hm hid hro hep 2 (by unfold lg2; rw [if_pos hn1]) (by decide)
  rw [if_neg hn1]
  have hl2 : lg2 n (lgF ep 0 (V.map EkV.r)) = lgF ep 0 (V.map EkV.r) := by unfold lg2; rw [if_neg hn1]
  by_cases hlg' : lgF ep 0 (V.map EkV.r) = 0
  case neg => rw [if_pos hlg']; exact sg5_a B id up ro ep su ma ot co A n c V w bN h hn hm hid hro hep _ hl2 hlg'
  rw [if_neg (fun k => k hlg')]
  have hlg := hl2.trans hlg'
  by_cases hsu : 0 ≤ su ∧ su ≤ n
  case neg => rw [if_pos (fun k => hsu k.1)]; exact sg7_a B id up ro ep su ma ot co A n c V w bN h hn hm hid hro hep hlg (by omega)
  by_cases hma : 0 ≤ ma ∧ ma ≤ n
  case neg => rw [if_pos (fun k => hma k.2.1)]; exact sg8_a B id up ro ep su ma ot co A n c V w bN h hn hm hid hro hep hlg hsu (by omega)
  by_cases hot : 0 ≤ ot ∧ ot ≤ n
  case neg => rw [if_pos (fun k => hot k.2.2.1)]; exact sg9_a B id up ro ep su ma ot co A n c V w bN h hn hm hid hro hep hlg hsu hma (by omega)
  by_cases hc0 : 0 ≤ co
  case neg => rw [if_pos (fun k => hc0 k.2.2.2.1)]; exact sg10_a B id up ro ep su ma ot co A n c V w bN h hn hm hid hro hep hlg hsu hma hot (by omega)
  by_cases hc1 : co ≤ su
  case neg => rw [if_pos (fun k => hc1 k.2.2.2.2)]; exact sg10_a B id up ro ep su ma ot co A n c V w bN h hn hm hid hro hep hlg hsu hma hot (by omega)
  rw [if_neg (fun k => k ⟨hsu, hma, hot, hc0, hc1⟩)]
  by_cases hr : ro = 1
  · subst hr
    cases up with
    | false =>
      rw [if_pos (fun k => by have := (k.1 rfl).1; cases this)]
      exact a1_a B id ep su ma ot co A n c V w bN h hn hm hid hro hep hlg hsu hma hot ⟨hc0, hc1⟩
    | true =>
      by_cases he : ep = 0
      · subst he
        rw [if_pos (fun k => by have := (k.1 rfl).2.1; omega)]
        exact a2_a B id su ma ot co A n c V w bN h hn hm hid hro hep hlg hsu hma hot ⟨hc0, hc1⟩
      · by_cases hm1 : ma = 0
        · subst hm1
          rw [if_neg (fun k => k ⟨fun _ => ⟨rfl, by omega, rfl⟩, fun f => absurd rfl f⟩), if_neg (by simp)]
          exact a4_a B id ep su ot co A n c V w bN h hn hm hid hro hep hlg hsu hma hot ⟨hc0, hc1⟩ he
        · rw [if_pos (fun k => hm1 (k.1 rfl).2.2)]
          exact a3_a B id ep su ma ot co A n c V w bN h hn hm hid hro hep hlg hsu hma hot ⟨hc0, hc1⟩ he hm1
  · by_cases ho : ot = 0
    · subst ho
      rw [if_neg (fun k => k ⟨fun f => absurd f hr, fun _ => rfl⟩)]
      cases up with
      | true => rw [if_neg (by simp)]; exact b2_a B id ro ep su ma co A n c V w bN h hn hm hid hro hep hlg hsu hma hot ⟨hc0, hc1⟩ hr
      | false =>
        by_cases hs : su = n
        · by_cases hm1 : ma = 0
          · subst hm1
            by_cases hc : co = 0
            · subst hc
              rw [if_neg (fun k => k.2 ⟨hs, rfl, rfl⟩)]
              exact b6_a B id ro ep su A n c V w bN h hn hm hid hro hep hlg hsu hma hot ⟨hc0, hc1⟩ hr hs
            · rw [if_pos ⟨rfl, fun k => hc k.2.2⟩]
              exact b5_a B id ro ep su co A n c V w bN h hn hm hid hro hep hlg hsu hma hot ⟨hc0, hc1⟩ hr hs hc
          · rw [if_pos ⟨rfl, fun k => hm1 k.2.1⟩]
            exact b4_a B id ro ep su ma co A n c V w bN h hn hm hid hro hep hlg hsu hma hot ⟨hc0, hc1⟩ hr hs hm1
        · rw [if_pos ⟨rfl, fun k => hs k.1⟩]
          exact b3_a B id ro ep su ma co A n c V w bN h hn hm hid hro hep hlg hsu hma hot ⟨hc0, hc1⟩ hr hs
    · rw [if_pos (fun k => ho (k.2 hr))]
      exact b1_a B id up ro ep su ma ot co A n c V w bN h hn hm hid hro hep hlg hsu hma hot ⟨hc0, hc1⟩ hr ho

theorem specNFw_a (v : Int) (B : Nat) (id : Int) (up : Bool) (ro ep su ma ot co : Int) (A : Option Addr) (n c : Nat) (V : List EkV) (w : World) (hb : Blk w B 98 #[.int .i64 id, .bool up, .int .i64 ro, .int .i64 ep, .slice A n c, .int .i64 su, .int .i64 ma, .int .i64 ot, .int .i64 co, vx0, vx1, vx2, vx3, vx4, vx5, vx6, vx7, vx8]) (h : LgAt w A V) (hn : V.length = n) (hm : n ≤ 2097152) (hv : nF id up ro ep su ma ot co n (V.map EkV.r) = v) :
    Calls Tryz.prog 87 #[.pointer (some ⟨B, 0, none⟩)] w fun e w' => e = .returned (.int .i64 v) ∧ New w w' := by
  rw [← hv]; exact specNFp_a B id up ro ep su ma ot co A n c V w hb h hn hm

end Go.Proofs.YtkbdmcimgepakaaGreat
