/- What is proved here: how a map keyed by prefixes, that a call has made, is asked and written, told as a plain function of two numbers. No condition beyond the bounds of the numbers. -/
import Derived.Test.YtefbeaoinikbgaaPsFn
import Derived.Maps.OwnSet
import Derived.Maps.OwnOps
import Derived.DeepKeys4
import Derived.MapViews
namespace Go.Proofs.Ytefbeaoinikbgaa
open Go.RowKit Go.Sort Go.Maps
set_option maxRecDepth 100000

theorem Try.rowPx : (25 : TypeId) < Try.prog.types.size := of_decide_eq_true (by kernel_rfl)
theorem Try.cellsPx : Try.prog.cellsOf 25 = 2 := by kernel_rfl
theorem Try.deepPx : Try.prog.keyTypeAt (Try.prog.types.size + 1) 25 = true := by kernel_rfl
theorem Try.widePx : (match Try.prog.underlying 25 with | some (.array _ _) | some (.struct _) => true | _ => false) = true := by kernel_rfl
theorem Try.keyed : Keyed Try.prog 25 := Keyed.of_law (deep_law_laid laidOut (m := 2) (by omega) Try.rowPx (by kernel_rfl) Try.widePx)
theorem Try.zeroI (w : World) : (zeroValue 2).run Try.prog w = .ok (.int .i64 0) w := by kernel_rfl

/-- What the key of a prefix reads as. -/
def klp (a l : Int) : Lit := (DataW.agg (H := Unit) [.lit (.int .i64 a), .lit (.int .i64 l)]).asKey

theorem In6.wf {x : Int} (h : In6 x) : (Lit.int .i64 x).wf = true := by
  unfold In6 at h
  simp [Lit.wf, IntKind.min, IntKind.max, IntKind.signed, IntKind.bits]
  omega

theorem key_is (a l : Int) (ha : In6 a) (hl : In6 l) : keyOf Try.prog 25 (.agg #[.int .i64 a, .int .i64 l]) = some (klp a l) := by
  have w0 : World := default
  have hf : (Value.agg #[.int .i64 a, .int .i64 l]).formed Try.prog 25 = true := by
    simp [Value.formed, Try.underlying25, Try.cellsPx]
  have t0 : ∃ n, DataW.trod (H := Unit) (fun _ => ()) Try.prog w0 0 (fun _ => true) true n 2 [.int .i64 a] = some (.lit (.int .i64 a), []) := ⟨1, by simp [DataW.trod, Try.underlying2, ha.wf]⟩
  have t1 : ∃ n, DataW.trod (H := Unit) (fun _ => ()) Try.prog w0 0 (fun _ => true) true n 2 [.int .i64 l] = some (.lit (.int .i64 l), []) := ⟨1, by simp [DataW.trod, Try.underlying2, hl.wf]⟩
  have ht := Joins.shut_agg2 (enc := fun _ => ()) (w := w0) (base := 0) (spare := fun _ => true) (held := true) Try.underlying25 (by kernel_rfl) Try.cellsPx t0 t1
  exact (keyOf_asKey Try.deepPx Try.widePx hf ht).1

theorem klp_inj {a l b m : Int} (ha : In6 a) (hl : In6 l) (hb : In6 b) (hm : In6 m) (h : klp a l = klp b m) : a = b ∧ l = m := by
  have := Try.keyed.inj (key_is a l ha hl) (h ▸ key_is b m hb hm)
  simpa using this

/-- The block b is a map of at most n entries that holds at each prefix what f says. -/
def MapP (w : World) (b n : Nat) (f : Int → Int → Option Int) : Prop :=
  ∃ D : DataW Unit, w.ownsMap Try.prog 25 (plainElem Try.prog 2) b n D ∧
    ∀ a l, In6 a → In6 l → Maps.has D (klp a l) = (f a l).isSome ∧ D.atKey (klp a l) (.lit (.int .i64 0)) = .lit (.int .i64 ((f a l).getD 0))

theorem MapP.made (w : World) : MapP (w.alloc (.map #[] 0)) w.heap.size 0 (fun _ _ => none) :=
  ⟨.map [], World.ownsMap_made _ _ _ _, fun a l _ _ => ⟨by simp [Maps.has_eq], by simp [DataW.atKey]⟩⟩
theorem MapP.lt {w : World} {b n : Nat} {f : Int → Int → Option Int} (h : MapP w b n f) : b < w.heap.size := by obtain ⟨D, hD, _⟩ := h; exact hD.lt
theorem MapP.turn {w w' : World} {b n : Nat} {f : Int → Int → Option Int} {S : Nat → Prop} (h : MapP w b n f) (t : Turn S w w') (hS : ¬ S b) : MapP w' b n f := by
  obtain ⟨D, hD, hf⟩ := h
  obtain ⟨es, clock, hb, r⟩ := hD
  exact ⟨D, ⟨es, clock, (t.block b (by rcases Nat.lt_or_ge b w.heap.size with hl | hl; exact hl; rw [Array.getElem?_eq_none hl] at hb; cases hb) hS).trans hb, r⟩, hf⟩
theorem MapP.new {w w' : World} {b n : Nat} {f : Int → Int → Option Int} (h : MapP w b n f) (t : New w w') : MapP w' b n f := h.turn t (fun x => x)

/-- What is told behind a store. -/
def upd (f : Int → Int → Option Int) (a l v : Int) : Int → Int → Option Int := fun b m => if b = a ∧ m = l then some v else f b m

theorem put_told {D : DataW Unit} {f : Int → Int → Option Int} (hm : Maps.IsMap D) (hf : ∀ a l, In6 a → In6 l → Maps.has D (klp a l) = (f a l).isSome ∧ D.atKey (klp a l) (.lit (.int .i64 0)) = .lit (.int .i64 ((f a l).getD 0)))
    (a l v : Int) (ha : In6 a) (hl : In6 l) : ∀ b m, In6 b → In6 m → Maps.has (D.put (klp a l) (.lit (.int .i64 v))) (klp b m) = (upd f a l v b m).isSome ∧ (D.put (klp a l) (.lit (.int .i64 v))).atKey (klp b m) (.lit (.int .i64 0)) = .lit (.int .i64 ((upd f a l v b m).getD 0)) := by
  intro b m hb hm'
  have hk := Try.keyed.key (key_is a l ha hl)
  by_cases e : b = a ∧ m = l
  · obtain ⟨rfl, rfl⟩ := e
    rw [Maps.has_put_same hm hk, Maps.atKey_put_same hm hk]
    simp [upd]
  · have hne : klp b m ≠ klp a l := fun h => e (klp_inj hb hm' ha hl h)
    rw [Maps.has_put_other hne, Maps.atKey_put_other hne]
    simp [upd, e, hf b m hb hm']

theorem run_makeHint (n : Int) (w : World) : (Instr.makeMap 53 (some (.int .i64 n))).run Try.prog w = .ok (.map (some w.heap.size)) (w.alloc (.map #[] 0)) := by
  simp [Instr.makeMap, run_underlying Try.underlying53, asInt, asIntOf, Result.andThen, go_sem]

end Go.Proofs.Ytefbeaoinikbgaa
