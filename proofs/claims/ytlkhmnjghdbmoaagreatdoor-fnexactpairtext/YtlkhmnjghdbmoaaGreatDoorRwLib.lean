/- What is proved here: how structs that lie in blocks are loaded and stored, whole, in a region that draws its order. No condition. -/
import Derived.Test.YtlkhmnjghdbmoaaGreatDoorBytes
import Derived.Deep.RegionHeld3
import Derived.Laws.Tables
import Derived.Laws.Rows
namespace Go.Proofs.YtlkhmnjghdbmoaaGreatDoor
open Go.RowKit

theorem Turn.rowW {a w : World} {B : Nat} {S : Nat → Prop} (h : Turn S a w) (hS : S B) (cs : Array Value) : Turn S a (w.setRow B cs) :=
  ⟨h.os, h.tape, h.output, by simpa [World.setRow] using h.size, fun k hk hs => (setRow_other w B k cs (fun e => hs (e ▸ hS))).trans (h.block k hk hs)⟩
theorem Blk.rowW {w : World} {B : Nat} {t : TypeId} {old : Array Value} (h : Blk w B t old) (cs : Array Value) : Blk (w.setRow B cs) B t cs := setRow_heap w B old cs t (0, 0) h
theorem Blk.rowO {w : World} {B C : Nat} {t : TypeId} {cs : Array Value} (h : Blk w C t cs) (hne : ¬ C = B) (ds : Array Value) : Blk (w.setRow B ds) C t cs := (setRow_other w B C ds hne).trans h
theorem Turn.drewW {S : Nat → Prop} {a w : World} (h : Turn S a w) : Turn S a w.drew := ⟨h.os, h.tape, h.output, h.size, h.block⟩

/-- A struct that lies in a block is loaded, whole, wherever the block is known. -/
theorem yields_load_blk {P : Program} {ops : Array Oper} {S : World → Prop} {op : Oper} {a : Act} (hw : Region.wanted op (yielded ops a.tmps) = true) (ty : TypeId) (x : Operand) (ho : op.op = .load ty x)
    (B : Nat) (hx : a.eval x = .pointer (some ⟨B, 0, none⟩)) (cs : Array Value) (d : TypeDesc) (hS : ∀ w, S w → Blk w B ty cs)
    (hu : P.underlying ty = some d) (hd : (match d with | .struct _ | .array _ _ => true | _ => false) = true) (hi : (P.info? ty).map (·.size) = some cs.size) : YieldsIf P ops S op (.agg cs) a :=
  .inl ⟨hw, fun w hw' => by
    unfold execOp
    simp only [ho, hx, Instr.loadAt, Instr.sureAddr, Sem.run_bind, Sem.run_pure, Result.andThen_ok, run_loadVar_row w B ty ty cs (0, 0) d (hS w hw') hu hd hi]⟩

/-- What is walked under more is walked under less. -/
theorem wpAnyH_more {P : Program} {md : Region.Mode} {ops : Array Oper} {Q : Exit → Act → World → Prop} {S S' : World → Prop} (hs : ∀ w, S' w → S w) : ∀ (fuel : Nat) (listed : Array Bool) (a : Act) (w : World), wpAnyH P md ops Q S' fuel listed a w → wpAnyH P md ops Q S fuel listed a w
  | 0, _, _, _, h => h
  | fuel + 1, _, _, _, h => ⟨h.1, fun i hi => wpOp_mono (fun a' w' h3 => ⟨hs _ h3.1, wpAnyH_more hs fuel _ a' w' h3.2⟩) (h.2 i hi)⟩

/-- A struct that lies in a block is loaded, whole. -/
theorem run_load_blk {P : Program} {op : Oper} {a : Act} {w : World} (ty : TypeId) (x : Operand) (ho : op.op = .load ty x) (B : Nat) (hx : a.eval x = .pointer (some ⟨B, 0, none⟩)) (cs : Array Value) (d : TypeDesc) (hb : Blk w B ty cs)
    (hu : P.underlying ty = some d) (hd : (match d with | .struct _ | .array _ _ => true | _ => false) = true) (hi : (P.info? ty).map (·.size) = some cs.size) : (execOp a.eval op).run P w = .ok (.value (.agg cs)) w := by
  unfold execOp
  simp only [ho, hx, Instr.loadAt, Instr.sureAddr, Sem.run_bind, Sem.run_pure, Result.andThen_ok, run_loadVar_row w B ty ty cs (0, 0) d hb hu hd hi]

section
variable {P : Program} {ops : Array Oper} {Q : Exit → Act → World → Prop} {md : Region.Mode} {S : World → Prop}
/-- The beginning of a walk by hand through a region that draws its order. -/
theorem hw_start {id n : Nat} {a : Act} {w : World} (hn : ops.size = n) (hm : P.follows .mixedOrders = true) (hS : S w.drew) (h : S w.drew → wpAnyH P .any ops Q S n (Array.replicate n false) a w.drew) : (Code.region id ops true).wp P Q a w := by
  subst hn
  exact wp_region_held_drew hm hS h
/-- An operation that only yields is taken first. -/
theorem hw_take {fuel : Nat} {listed : Array Bool} {a : Act} {w : World} (i : Nat) (d : Option Tmp) (v : Value) {oi : Oper} (hi : ops[i]? = some oi) (hd : oi.dst = d)
    (hs : Region.noSelect ops = true) (hf : Region.free md ops listed i = true) (hr : (Region.ready md ops listed).contains i = true)
    (hQ : ∀ c a w, Q (.panic c) (a.put d v) w → Q (.panic c) a w) (hw : Region.wanted oi (yielded ops a.tmps) = true) (hS : S w) (hy : ∀ w, S w → (execOp a.eval oi).run P w = .ok (.value v) w)
    (h : wpAnyH P md ops Q S fuel (listed.setIfInBounds i true) (a.put d v) w) : wpAnyH P md ops Q S (fuel + 1) listed a w := by
  subst hd
  exact wpAnyH_take hi hs hf hr hQ (.inl ⟨hw, hy⟩) hS h
/-- The one operation that may come up is run. -/
theorem hw_call {fuel : Nat} {listed : Array Bool} {a : Act} {w : World} (i : Nat) (d : Option Tmp) {oi : Oper} (hi : ops[i]? = some oi) (hd : oi.dst = d) (hr : Region.ready md ops listed = [i]) (hw : Region.wanted oi (yielded ops a.tmps) = true)
    (h : ∀ K' : Act → World → Prop, Shut (∀ u w', S w' → (S w' → wpAnyH P md ops Q S fuel (listed.setIfInBounds i true) (a.put d u) w') → K' (a.put d u) w') → Oper.wp P oi a w K' Q) : wpAnyH P md ops Q S (fuel + 1) listed a w := by
  subst hd
  refine wpAnyH_ready hr (by simp) ?_
  intro j hj
  obtain rfl := List.mem_singleton.1 hj
  refine wpOp_step hi (fun K' hK => ?_)
  rw [if_pos hw]
  exact h K' (fun u w' hS' hW => hK _ _ ⟨hS', hW hS'⟩)
/-- One of those that may come up is run. -/
theorem hw_step {fuel : Nat} {listed : Array Bool} {a : Act} {w : World} {rs : List Nat} (i : Nat) (d : Option Tmp) {oi : Oper} (hi : ops[i]? = some oi) (hd : oi.dst = d) (hw : Region.wanted oi (yielded ops a.tmps) = true)
    (h : ∀ K' : Act → World → Prop, Shut (∀ u w', S w' → (S w' → wpAnyH P md ops Q S fuel (listed.setIfInBounds i true) (a.put d u) w') → K' (a.put d u) w') → Oper.wp P oi a w K' Q) (hs : AllReadyH P md ops Q S fuel listed a w rs) : AllReadyH P md ops Q S fuel listed a w (i :: rs) := by
  subst hd
  intro j hj
  rcases List.mem_cons.1 hj with rfl | hj
  · refine wpOp_step hi (fun K' hK => ?_)
    rw [if_pos hw]
    exact h K' (fun u w' hS' hW => hK _ _ ⟨hS', hW hS'⟩)
  · exact hs j hj
/-- A struct is stored, whole, into a block that is known. -/
theorem hw_store {a : Act} {w : World} {K : Act → World → Prop} (ty : TypeId) (x y : Operand) {oi : Oper} (ho : oi.op = .store ty x y) (hd : oi.dst = none) (B : Nat) (cs old : Array Value) (hx : a.eval x = .pointer (some ⟨B, 0, none⟩)) (hy : a.eval y = .agg cs)
    (hb : Blk w B ty old) (hi : (P.info? ty).map (·.size) = some cs.size) (hold : old.size = cs.size) (h1 : cs.all (·.oneCell') = true) (h : K (a.put none undef) (w.setRow B cs)) : Oper.wp P oi a w K Q := by
  refine wp_store_row ty x y ho B cs hx hy ty old hb hi hold h1 ?_
  rw [hd]
  exact h
end

theorem results_row3 {fn : Func} {t0 t1 t2 : Tmp} {ty0 ty1 ty2 : TypeId} {P : Program} {w : World} {tmps : Array Value} {B0 B1 B2 : Nat} {cs0 cs1 cs2 : Array Value} (h : fn.results = #[.cell t0 ty0, .cell t1 ty1, .cell t2 ty2])
    (ht0 : tmps[t0]? = some (.pointer (some ⟨B0, 0, none⟩))) (ht1 : tmps[t1]? = some (.pointer (some ⟨B1, 0, none⟩))) (ht2 : tmps[t2]? = some (.pointer (some ⟨B2, 0, none⟩)))
    (hb0 : Blk w B0 ty0 cs0) (hb1 : Blk w B1 ty1 cs1) (hb2 : Blk w B2 ty2 cs2)
    (hu0 : ∃ fs, P.underlying ty0 = some (.struct fs)) (hu1 : ∃ fs, P.underlying ty1 = some (.struct fs)) (hu2 : ∃ fs, P.underlying ty2 = some (.struct fs))
    (hi0 : (P.info? ty0).map (·.size) = some cs0.size) (hi1 : (P.info? ty1).map (·.size) = some cs1.size) (hi2 : (P.info? ty2).map (·.size) = some cs2.size) :
    (results fn tmps).run P w = .ok (.tuple #[.agg cs0, .agg cs1, .agg cs2]) w := by
  obtain ⟨f0, hu0⟩ := hu0
  obtain ⟨f1, hu1⟩ := hu1
  obtain ⟨f2, hu2⟩ := hu2
  have hl0 := run_loadVar_row (P := P) w B0 ty0 ty0 cs0 (0, 0) (.struct f0) hb0 hu0 rfl hi0
  have hl1 := run_loadVar_row (P := P) w B1 ty1 ty1 cs1 (0, 0) (.struct f1) hb1 hu1 rfl hi1
  have hl2 := run_loadVar_row (P := P) w B2 ty2 ty2 cs2 (0, 0) (.struct f2) hb2 hu2 rfl hi2
  simp [results, h, ht0, ht1, ht2, asAddr, hl0, hl1, hl2]

end Go.Proofs.YtlkhmnjghdbmoaaGreatDoor
