/- What is proved here: how an entry of a map keyed by prefixes, that a call has made, is counted up, in whichever order its parts are done. No condition beyond the bounds of the numbers. -/
import Derived.Test.YtefbeaoinikbgaaMpLib
import Derived.WideKeyEntry
namespace Go.Proofs.Ytefbeaoinikbgaa
open Go.RowKit Go.Sort Go.Maps Go.WideElems Go.ChangeMaps Go.MapKept
set_option maxRecDepth 100000

theorem Try.keyLaw : Go.WideMaps.KeyLaw Try.prog 25 := deep_law_laid laidOut (m := 2) (by omega) Try.rowPx (by kernel_rfl) Try.widePx

theorem turn_setBlock (w : World) (b : Nat) (o : Obj) : Turn (fun k => k = b) w (setBlock w b o) :=
  ⟨rfl, rfl, rfl, by simp [setBlock], fun k _ hk => by
    have hne : ¬ b = k := fun e => hk e.symm
    simp [setBlock, hne]⟩

/-- The world behind the making of an entry: the map reads as it did, or the key holds the zero value, which it reads as anyway. -/
theorem entry_reads {w : World} {b : Nat} {es : Array MapEntry} {clock : Nat} {D : DataW Unit} {n : Nat} (hb : w.heap[b]? = some (.map es clock)) (F : Fit Try.prog 25 (plainElem (H := Unit) Try.prog 2) es clock) (hown : w.ownsMap Try.prog 25 (plainElem Try.prog 2) b n D) (hn : n < maxLen)
    {key : Value} {kl : Lit} (hkey : keyOf Try.prog 25 key = some kl) {r : Value} {w2 : World} (hE : (Instr.mapEntry 53 (.map (some b)) key).run Try.prog w = .ok r w2) {c : Int} (hL : (Instr.lookup 53 (.map (some b)) key false).run Try.prog w = .ok (.int .i64 c) w) :
    (Instr.lookup 53 (.map (some b)) key false).run Try.prog w2 = .ok (.int .i64 c) w2 := by
  rcases Try.keyLaw.find w hkey es.toList F.keys with ⟨h1, h2⟩ | ⟨j, e0, h1, h2, h3⟩
  · have e1 : (Instr.mapEntry 53 (.map (some b)) key).run Try.prog w = .ok (.tuple #[.int .i64 0, goInt clock]) (setBlock w b (.map (es.push ⟨key, .int .i64 0, clock⟩) (clock + 1))) := by
      simp [Instr.mapEntry, run_underlying Try.underlying53, Go.MapKept.run_getObj_map hb, Try.keyLaw.check w false hkey, h1, Go.MapKept.run_setObj_map _ hb, Result.andThen, setBlock]
    have e2 : (Instr.mapUpdate 53 (.map (some b)) key (.int .i64 0)).run Try.prog w = .ok () (setBlock w b (.map (es.push ⟨key, .int .i64 0, clock⟩) (clock + 1))) := by
      simp [Instr.mapUpdate, run_underlying Try.underlying53, Go.MapKept.run_getObj_map hb, Try.keyLaw.check w false hkey, h1, Go.MapKept.run_setObj_map _ hb, Result.andThen, setBlock]
    have e3 : (Instr.lookup 53 (.map (some b)) key false).run Try.prog w = .ok (.int .i64 0) w := by
      simp [Instr.lookup, run_underlying Try.underlying53, Go.MapKept.run_getObj_map hb, Try.keyLaw.check w es.isEmpty hkey, h1, Result.andThen]
    rw [e3] at hL
    rw [e1] at hE
    obtain rfl : c = 0 := by simpa using hL.symm
    obtain rfl := (Result.ok.inj hE).2
    obtain ⟨w', hu, hown', _⟩ := hown.update Try.keyed Try.underlying53 hn hkey (plainElem_int Try.underlying2 (a := 0) (by decide))
    rw [e2] at hu
    obtain rfl := (Result.ok.inj hu).2
    obtain ⟨c', hrun, hat, _⟩ := hown'.lookup_int Try.keyed Try.underlying53 Try.underlying2 (Try.zeroI _) hkey
    rw [Maps.atKey_put_same hown.isMap (Try.keyed.key hkey)] at hat
    have : c' = 0 := by simpa using hat.symm
    rw [this] at hrun
    exact hrun
  · have hj : es[j]? = some e0 := by simpa using h2
    have hsame : es.modify j (fun e => { e with key := key }) = es := by
      apply Array.ext'
      rw [Array.toList_modify, modify_eq_set _ _ _ _ h2]
      have : ({ e0 with key := key } : MapEntry) = e0 := by rw [← h3]
      rw [this]
      exact set_self _ _ _ h2
    have e1 : (Instr.mapEntry 53 (.map (some b)) key).run Try.prog w = .ok (.tuple #[e0.val, goInt e0.born]) (setBlock w b (.map es clock)) := by
      simp [Instr.mapEntry, run_underlying Try.underlying53, Go.MapKept.run_getObj_map hb, Try.keyLaw.check w false hkey, h1, hj, h3, Try.keyLaw.stays w hkey, hsame, Go.MapKept.run_setObj_map _ hb, Result.andThen, setBlock]
    rw [e1] at hE
    obtain rfl := (Result.ok.inj hE).2
    have hb2 : (setBlock w b (.map es clock)).heap[b]? = some (.map es clock) := heap_setBlock_same hb _
    have hown2 : (setBlock w b (.map es clock)).ownsMap Try.prog 25 (plainElem Try.prog 2) b n D := by
      obtain ⟨es', clock', hb', r⟩ := hown
      rw [hb] at hb'
      simp only [Option.some.injEq, Obj.map.injEq] at hb'
      obtain ⟨rfl, rfl⟩ := hb'
      exact ⟨es, clock, hb2, r⟩
    obtain ⟨c1, hr1, ha1, _⟩ := hown.lookup_int Try.keyed Try.underlying53 Try.underlying2 (Try.zeroI _) hkey
    obtain ⟨c2, hr2, ha2, _⟩ := hown2.lookup_int Try.keyed Try.underlying53 Try.underlying2 (Try.zeroI _) hkey
    rw [hr1] at hL
    have h5 : c1 = c := by simpa using hL
    rw [ha1] at ha2
    have : c1 = c2 := by simpa using ha2
    rw [hr2, ← this, h5]

/-- 'm[k]++' in its parts. -/
theorem MapP.inc {w : World} {M m : Nat} {f : Int → Int → Option Int} (h : MapP w M m f) (x y : Int) (hx : In6 x) (hy : In6 y) (hm : m < maxLen) (hc : In6 ((f x y).getD 0 + 1)) :
    ∃ (v0 : Value) (st : Nat) (w2 w3 : World), (Instr.lookup 53 (.map (some M)) (.agg #[.int .i64 x, .int .i64 y]) false).run Try.prog w = .ok (.int .i64 ((f x y).getD 0)) w ∧
      (Instr.mapEntry 53 (.map (some M)) (.agg #[.int .i64 x, .int .i64 y])).run Try.prog w = .ok (.tuple #[v0, goInt st]) w2 ∧
      (Instr.lookup 53 (.map (some M)) (.agg #[.int .i64 x, .int .i64 y]) false).run Try.prog w2 = .ok (.int .i64 ((f x y).getD 0)) w2 ∧
      (Instr.entryStore 53 (.map (some M)) (goInt st) (.int .i64 ((f x y).getD 0 + 1))).run Try.prog w2 = .ok () w3 ∧
      MapP w3 M (m + 1) (upd f x y ((f x y).getD 0 + 1)) ∧ Turn (fun k => k = M) w w3 := by
  obtain ⟨D, hown, hfD⟩ := h
  have hkey := key_is x y hx hy
  have hown' := hown
  obtain ⟨es, clock, hb, F, hs, hD⟩ := hown'
  obtain ⟨v0, st, es1, clock1, hE, _, hS⟩ := entry_then_store (w := w) Try.keyLaw Try.underlying53 (z := .int .i64 0) Try.zeroI hb F hkey
  obtain ⟨c, hr, hat, _⟩ := hown.lookup_int Try.keyed Try.underlying53 Try.underlying2 (Try.zeroI _) hkey
  rw [(hfD x y hx hy).2] at hat
  have hcc : (f x y).getD 0 = c := by simpa using hat
  rw [hcc] at hc ⊢
  have hL2 := entry_reads hb F hown hm hkey hE hr
  obtain ⟨es', clock', hst, hup⟩ := hS _ (.int .i64 (c + 1)) (heap_setBlock_same hb _)
  obtain ⟨w', hu, hown3, _⟩ := hown.update Try.keyed Try.underlying53 hm hkey (plainElem_int Try.underlying2 hc.wf)
  rw [hup] at hu
  obtain rfl := (Result.ok.inj hu).2
  refine ⟨v0, st, _, _, hr, hE, hL2, hst, ⟨D.put (klp x y) (.lit (.int .i64 (c + 1))), ?_, put_told hown.isMap hfD x y (c + 1) hx hy⟩, Turn.trans (turn_setBlock w M _) (turn_setBlock _ M _) (fun _ _ e => e)⟩
  obtain ⟨es4, clock4, hb4, r4⟩ := hown3
  rw [heap_setBlock_same hb] at hb4
  simp only [Option.some.injEq, Obj.map.injEq] at hb4
  obtain ⟨rfl, rfl⟩ := hb4
  exact ⟨_, _, heap_setBlock_same (heap_setBlock_same hb _) _, r4⟩

end Go.Proofs.Ytefbeaoinikbgaa
