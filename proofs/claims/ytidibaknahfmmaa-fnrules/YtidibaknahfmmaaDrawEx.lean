/- What is proved here: what the drawing of what is told to others answers. -/
import Derived.Test.YtidibaknahfmmaaDrawBt6
import Derived.Deep.RegionHeld3
import Derived.Deep.CutRange
namespace Go.Proofs.Ytidibaknahfmmaa
open Go.RowKit Go.Sort
set_option linter.unusedVariables false

theorem Turn.undrew {S : Nat → Prop} {w v : World} (h : Turn S w.drew v) : Turn S w v := ⟨h.os, h.tape, h.output, h.size, h.block⟩
theorem Turn.hereD {w wr : World} {B j : Nat} (h : Turn (fun k => k = B) w wr) (v : Value) : Turn (fun k => k = B) w (wr.setCell ⟨B, j, none⟩ v) := h.set rfl v
theorem cell_set6d {w : World} {B C j k : Nat} {v : Value} (h : ¬ B = C) : (w.setCell ⟨B, j, none⟩ v).cell? ⟨C, k, none⟩ = w.cell? ⟨C, k, none⟩ := World.cell?_of_block (Below.heap_setCell w ⟨B, j, none⟩ v C (fun e => h e.symm))
theorem nsLit6 {w : World} {B : Nat} (h : Blk w B 2 #[.int .i64 1, .int .i64 2, .int .i64 3, .int .i64 4, .int .i64 5, .int .i64 6]) : NsAt w (some ⟨B, 0, none⟩) [1, 2, 3, 4, 5, 6] := by
  intro i z hz
  have hc := h.cells i
  refine ⟨B, 0, rfl, ?_, ?_⟩
  · rw [Nat.zero_add, hc]
    match i, hz with
    | 0, hz | 1, hz | 2, hz | 3, hz | 4, hz | 5, hz => simp at hz; subst hz; rfl
    | i + 6, hz => simp at hz
  · have := List.mem_of_getElem? hz
    simp only [List.mem_cons, List.not_mem_nil, or_false] at this
    unfold In6
    omega

set_option maxHeartbeats 6400000 in
theorem drawExport (a : Option Addr) (n c : Nat) (zs : List Int) (w : World) (h : BsAt w a zs) (hn : zs.length = n) (hm : n ≤ 2097152) (ha : ∀ x, zs ≠ [] → a = some x → x.block < w.heap.size) :
    Calls Try.prog 14 #[.slice a n c] w fun e w' => ∃ (o nx md lo : Int) (xs : List Int) (xa : Option Addr) (xc m : Nat) (z t : Int), e = .returned (.tuple #[.agg #[.int .i64 o, .slice xa m xc, .int .i64 nx, .int .i64 md, .int .i64 lo], .int .i64 z, .int .i64 t]) ∧ xs.length = m ∧ m ≤ 7 ∧ NsAt w' xa xs ∧ (xa = none → m = 0 ∧ xc = 0) ∧ New w w' := by
  have N0 : New w (w.alloc (.cells #[.int .i64 0, .slice none 0 0, .int .i64 0, .int .i64 0, .int .i64 0] 29)) := (New.refl w).alloc _
  have bR0 := Blk.mk w w.heap.size 29 #[.int .i64 0, .slice none 0 0, .int .i64 0, .int .i64 0, .int .i64 0] rfl
  have y0 : w.heap.size < (w.alloc (.cells #[.int .i64 0, .slice none 0 0, .int .i64 0, .int .i64 0, .int .i64 0] 29)).heap.size := by simp
  go_enter Try.func14, Try.ntmps14
  go_wp2_with fail
  refine (source_any a n c zs _ (h.new N0) hn hm (fun x h1 h2 => Nat.lt_trans (ha x h1 h2) y0)).mono ?_
  rintro e w1 ⟨B, rfl, hB, hs1, hn1⟩
  have bR1 := bR0.new hn1
  have N1 := N0.trans hn1
  have lB := hs1.blk.lt
  have hBw : w.heap.size < B := by omega
  have hRB : ¬ w.heap.size = B := by omega
  clear bR0 hn1 N0
  go_wp2_with fail
  refine (l3BentAttrs_sc hs1 (by omega)).mono ?_
  rintro e w2 ⟨o, nx, md, lo, xs, xa, xc, m, t2, rfl, hlx, hm7, -, -, hxb, ht2, hM2, hs2, ht⟩
  have bR2 := bR1.turn ht hRB
  have hNB : ∀ i, i < w.heap.size → ¬ i = B := fun i hi e => by omega
  have N2 := N1.before ht hNB
  have s2 := ht.size
  have hVB : ¬ w2.heap.size = B := by omega
  have neRV : ¬ w.heap.size = w2.heap.size := by omega
  obtain ⟨aM, cM, eM, nP2, rP⟩ := hM2.ns (fun z hz => by have := hxb z hz; unfold In6; omega)
  have hnil : xa = none → m = 0 ∧ xc = 0 := by
    intro e0
    rcases hM2 with ⟨e1, e2⟩ | ⟨g, cc, e1, _, _⟩
    · cases e1
      exact ⟨rfl, rfl⟩
    · subst e0
      cases e1
  have eA : xa = aM := by cases eM; rfl
  subst eA
  have hPB : ∀ x, xs ≠ [] → xa = some x → ¬ x.block = B := fun x _ hx e => by have := (rP x hx).1; omega
  have hPR : ∀ x, xs ≠ [] → xa = some x → ¬ x.block = w.heap.size := fun x _ hx e => by have := (rP x hx).1; omega
  clear bR1 N1 ht hM2 rP eM hs1
  go_upto_region 3 with fail
  have hal : New w2 (w2.alloc (.cells #[.int .i64 o, .slice xa m xc, .int .i64 nx, .int .i64 md, .int .i64 lo] 29)) := (New.refl _).alloc _
  have bV3 : Blk (w2.alloc (.cells #[.int .i64 o, .slice xa m xc, .int .i64 nx, .int .i64 md, .int .i64 lo] 29)) w2.heap.size 29 #[.int .i64 o, .slice xa m xc, .int .i64 nx, .int .i64 md, .int .i64 lo] := Blk.mk _ _ _ _ rfl
  have bR3 := bR2.new hal
  have hs3 := hs2.new hal
  have N3 := N2.trans hal
  have nP3 := nP2.new hal
  have y3 : w2.heap.size < (w2.alloc (.cells #[.int .i64 o, .slice xa m xc, .int .i64 nx, .int .i64 md, .int .i64 lo] 29)).heap.size := by simp
  clear bR2 hs2 N2 nP2 hal
  generalize w2.alloc (.cells #[.int .i64 o, .slice xa m xc, .int .i64 nx, .int .i64 md, .int .i64 lo] 29) = w3 at *
  go_wp2_with fail
  refine (chance_sc hs3 8 (by omega) (by omega)).mono ?_
  rintro e w4 ⟨r, rfl, hs4, ht4⟩
  have bV4 := bV3.turn ht4 hVB
  have bR4 := bR3.turn ht4 hRB
  have N4 := N3.before ht4 hNB
  have nP4 := nP3.turn ht4 hPB
  have s4 := ht4.size
  clear bV3 bR3 N3 nP3 ht4 hs3
  cases r
  · have bV5 := bV4
    have bR5 := bR4
    have N5 := N4
    have nP5 := nP4
    have hs5 := hs4
    clear bV4 bR4 N4 nP4 hs4
    go_upto_region 5 with fail
    have dV := bV5
    have dR := bR5
    have dN := N5
    have nP := nP5
    have cV5 := bV5.cells
    have hs5d := hs5.new ((New.refl _).drew)
    go_region_held3 (fun W => ∀ j, W.cell? ⟨w2.heap.size, j, none⟩ = #[Value.int .i64 o, .slice xa m xc, .int .i64 nx, .int .i64 md, .int .i64 lo][j]?) (exact (fun j => by (try simp (disch := exact neRV) only [cell_set6d]); first | exact cV5 j | exact dV.cells j | exact (dV.alloc _).cells j))
      (first
        | (go_at_call 21; refine (pick_sc (hsE.new ((New.refl _).alloc (.cells #[.int .i64 y3, .int .i64 y4, .int .i64 (-1)] 2))) [y3, y4, -1] (Blk.mk v5 v5.heap.size 2 #[.int .i64 y3, .int .i64 y4, .int .i64 (-1)] rfl) 3 rfl (by omega) (by omega) (by omega)).mono ?_; rintro e v6 ⟨q2, rfl, -, hsF, htF⟩; (try replace htF := Turn.undrew htF); have dV := (dV.alloc _).turn htF hVB; have dR := (dR.alloc _).turn htF hRB; have dN := (dN.alloc _).before htF hNB; have nP := (nP.new ((New.refl _).alloc _)).turn htF hPB; have cR := dR.cells; have fR := dR.frees)
        | (go_at_call 22; refine (next_sc hsD 9 (by omega) (by omega)).mono ?_; rintro e v5 ⟨y4, rfl, -, hsE, htE⟩; (try replace htE := Turn.undrew htE); have dV := dV.turn htE hVB; have dR := dR.turn htE hRB; have dN := dN.before htE hNB; have nP := nP.turn htE hPB; have cR := dR.cells; have fR := dR.frees)
        | (go_at_call 22; refine (next_sc hsC 9 (by omega) (by omega)).mono ?_; rintro e v4 ⟨y3, rfl, -, hsD, htD⟩; (try replace htD := Turn.undrew htD); have dV := dV.turn htD hVB; have dR := dR.turn htD hRB; have dN := dN.before htD hNB; have nP := nP.turn htD hPB; have cR := dR.cells; have fR := dR.frees)
        | (go_at_call 21; refine (pick_sc (hsB.new ((New.refl _).alloc (.cells #[.int .i64 (1 + y1), .int .i64 (1 + y2), .int .i64 0, .int .i64 65536] 2))) [1 + y1, 1 + y2, 0, 65536] (Blk.mk v2 v2.heap.size 2 #[.int .i64 (1 + y1), .int .i64 (1 + y2), .int .i64 0, .int .i64 65536] rfl) 4 rfl (by omega) (by omega) (by omega)).mono ?_; rintro e v3 ⟨q1, rfl, -, hsC, htC⟩; (try replace htC := Turn.undrew htC); have dV := (dV.alloc _).turn htC hVB; have dR := (dR.alloc _).turn htC hRB; have dN := (dN.alloc _).before htC hNB; have nP := (nP.new ((New.refl _).alloc _)).turn htC hPB; have cR := dR.cells; have fR := dR.frees)
        | (go_at_call 22; refine (next_sc hsA 5 (by omega) (by omega)).mono ?_; rintro e v2 ⟨y2, rfl, ⟨py2, qy2, -⟩, hsB, htB⟩; (try replace htB := Turn.undrew htB); have dV := dV.turn htB hVB; have dR := dR.turn htB hRB; have dN := dN.before htB hNB; have nP := nP.turn htB hPB; have cR := dR.cells; have fR := dR.frees; have qy2 := qy2 (by omega); have hwy2 : IntKind.i64.wrap (1 + y2) = 1 + y2 := wrap_in (by omega))
        | (go_at_call 22; refine (next_sc hs5d 5 (by omega) (by omega)).mono ?_; rintro e v1 ⟨y1, rfl, ⟨py1, qy1, -⟩, hsA, htA⟩; (try replace htA := Turn.undrew htA); have dV := dV.turn htA hVB; have dR := dR.turn htA hRB; have dN := dN.before htA hNB; have nP := nP.turn htA hPB; have cR := dR.cells; have fR := dR.frees; have qy1 := qy1 (by omega); have hwy1 : IntKind.i64.wrap (1 + y1) = 1 + y1 := wrap_in (by omega)))
    go_wp2
    refine bodyPost_ret (v := .tuple #[.agg #[.int .i64 o, .slice xa m xc, .int .i64 nx, .int .i64 md, .int .i64 lo], .int .i64 q1, .int .i64 q2]) (by simp [results, Try.results14, go_sem, cR]) rfl ?_
    refine (fun (hT : Turn (fun k => k = w.heap.size) v6 _) => ⟨o, nx, md, lo, xs, xa, xc, m, q1, q2, rfl, hlx, hm7, nP.turn hT hPR, hnil, dN.before hT (fun i hi e => by omega)⟩) ?_
    exact Turn.hereD (Turn.hereD (Turn.hereD (Turn.hereD (Turn.hereD (Turn.refl _ _) _) _) _) _) _
  · have hT5 : Turn (fun k => k = w2.heap.size) w4 (w4.setCell ⟨w2.heap.size, 1, none⟩ (.slice (some ⟨w4.heap.size, 0, none⟩) 6 6)) := Turn.hereD (Turn.refl _ _) _
    have hal : New (w4.setCell ⟨w2.heap.size, 1, none⟩ (.slice (some ⟨w4.heap.size, 0, none⟩) 6 6)) ((w4.setCell ⟨w2.heap.size, 1, none⟩ (.slice (some ⟨w4.heap.size, 0, none⟩) 6 6)).alloc (.cells #[.int .i64 1, .int .i64 2, .int .i64 3, .int .i64 4, .int .i64 5, .int .i64 6] 2)) := (New.refl _).alloc _
    have y5 : w4.heap.size < ((w4.setCell ⟨w2.heap.size, 1, none⟩ (.slice (some ⟨w4.heap.size, 0, none⟩) 6 6)).alloc (.cells #[.int .i64 1, .int .i64 2, .int .i64 3, .int .i64 4, .int .i64 5, .int .i64 6] 2)).heap.size := by simp [World.setCell]
    have bV5 : Blk ((w4.setCell ⟨w2.heap.size, 1, none⟩ (.slice (some ⟨w4.heap.size, 0, none⟩) 6 6)).alloc (.cells #[.int .i64 1, .int .i64 2, .int .i64 3, .int .i64 4, .int .i64 5, .int .i64 6] 2)) w2.heap.size 29 #[.int .i64 o, .slice (some ⟨w4.heap.size, 0, none⟩) 6 6, .int .i64 nx, .int .i64 md, .int .i64 lo] := (bV4.set 1 _).alloc _
    have bR5 := (bR4.turn hT5 neRV).new hal
    have N5 := (N4.before hT5 (fun i hi e => by omega)).trans hal
    have nP5 : NsAt ((w4.setCell ⟨w2.heap.size, 1, none⟩ (.slice (some ⟨w4.heap.size, 0, none⟩) 6 6)).alloc (.cells #[.int .i64 1, .int .i64 2, .int .i64 3, .int .i64 4, .int .i64 5, .int .i64 6] 2)) (some ⟨w4.heap.size, 0, none⟩) [1, 2, 3, 4, 5, 6] := nsLit6 (Blk.mk (w4.setCell ⟨w2.heap.size, 1, none⟩ (.slice (some ⟨w4.heap.size, 0, none⟩) 6 6)) w4.heap.size 2 #[.int .i64 1, .int .i64 2, .int .i64 3, .int .i64 4, .int .i64 5, .int .i64 6] (by simp [World.setCell]))
    have hs5 := (hs4.turn hT5 (fun e => hVB e.symm) (fun x h1 h2 e => by have := ha x h1 h2; omega)).new hal
    have cV4 := bV4.cells
    have fV4 := bV4.frees
    have lV4 := bV4.lt
    have hlx : ([1, 2, 3, 4, 5, 6] : List Int).length = 6 := rfl
    have hm7 : 6 ≤ 7 := by omega
    have hnil : (some ⟨w4.heap.size, 0, none⟩ : Option Addr) = none → 6 = 0 ∧ 6 = 0 := by intro e; cases e
    have hPB : ∀ x, ([1, 2, 3, 4, 5, 6] : List Int) ≠ [] → (some ⟨w4.heap.size, 0, none⟩ : Option Addr) = some x → ¬ x.block = B := fun x _ hx e => by obtain rfl := Option.some.inj hx; simp at e; omega
    have hPR : ∀ x, ([1, 2, 3, 4, 5, 6] : List Int) ≠ [] → (some ⟨w4.heap.size, 0, none⟩ : Option Addr) = some x → ¬ x.block = w.heap.size := fun x _ hx e => by obtain rfl := Option.some.inj hx; simp at e; omega
    have neV4 : ¬ w2.heap.size = w4.heap.size := by omega
    go_upto_region 5 with fail
    clear bV4 bR4 N4 nP4 hs4 hal hT5 cV4 fV4
    generalize ((w4.setCell ⟨w2.heap.size, 1, none⟩ (.slice (some ⟨w4.heap.size, 0, none⟩) 6 6)).alloc (.cells #[.int .i64 1, .int .i64 2, .int .i64 3, .int .i64 4, .int .i64 5, .int .i64 6] 2)) = w5 at *
    have dV := bV5
    have dR := bR5
    have dN := N5
    have nP := nP5
    have cV5 := bV5.cells
    have hs5d := hs5.new ((New.refl _).drew)
    go_region_held3 (fun W => ∀ j, W.cell? ⟨w2.heap.size, j, none⟩ = #[Value.int .i64 o, .slice (some ⟨w4.heap.size, 0, none⟩) 6 6, .int .i64 nx, .int .i64 md, .int .i64 lo][j]?) (exact (fun j => by (try simp (disch := exact neRV) only [cell_set6d]); first | exact cV5 j | exact dV.cells j | exact (dV.alloc _).cells j))
      (first
        | (go_at_call 21; refine (pick_sc (hsE.new ((New.refl _).alloc (.cells #[.int .i64 y3, .int .i64 y4, .int .i64 (-1)] 2))) [y3, y4, -1] (Blk.mk v5 v5.heap.size 2 #[.int .i64 y3, .int .i64 y4, .int .i64 (-1)] rfl) 3 rfl (by omega) (by omega) (by omega)).mono ?_; rintro e v6 ⟨q2, rfl, -, hsF, htF⟩; (try replace htF := Turn.undrew htF); have dV := (dV.alloc _).turn htF hVB; have dR := (dR.alloc _).turn htF hRB; have dN := (dN.alloc _).before htF hNB; have nP := (nP.new ((New.refl _).alloc _)).turn htF hPB; have cR := dR.cells; have fR := dR.frees)
        | (go_at_call 22; refine (next_sc hsD 9 (by omega) (by omega)).mono ?_; rintro e v5 ⟨y4, rfl, -, hsE, htE⟩; (try replace htE := Turn.undrew htE); have dV := dV.turn htE hVB; have dR := dR.turn htE hRB; have dN := dN.before htE hNB; have nP := nP.turn htE hPB; have cR := dR.cells; have fR := dR.frees)
        | (go_at_call 22; refine (next_sc hsC 9 (by omega) (by omega)).mono ?_; rintro e v4 ⟨y3, rfl, -, hsD, htD⟩; (try replace htD := Turn.undrew htD); have dV := dV.turn htD hVB; have dR := dR.turn htD hRB; have dN := dN.before htD hNB; have nP := nP.turn htD hPB; have cR := dR.cells; have fR := dR.frees)
        | (go_at_call 21; refine (pick_sc (hsB.new ((New.refl _).alloc (.cells #[.int .i64 (1 + y1), .int .i64 (1 + y2), .int .i64 0, .int .i64 65536] 2))) [1 + y1, 1 + y2, 0, 65536] (Blk.mk v2 v2.heap.size 2 #[.int .i64 (1 + y1), .int .i64 (1 + y2), .int .i64 0, .int .i64 65536] rfl) 4 rfl (by omega) (by omega) (by omega)).mono ?_; rintro e v3 ⟨q1, rfl, -, hsC, htC⟩; (try replace htC := Turn.undrew htC); have dV := (dV.alloc _).turn htC hVB; have dR := (dR.alloc _).turn htC hRB; have dN := (dN.alloc _).before htC hNB; have nP := (nP.new ((New.refl _).alloc _)).turn htC hPB; have cR := dR.cells; have fR := dR.frees)
        | (go_at_call 22; refine (next_sc hsA 5 (by omega) (by omega)).mono ?_; rintro e v2 ⟨y2, rfl, ⟨py2, qy2, -⟩, hsB, htB⟩; (try replace htB := Turn.undrew htB); have dV := dV.turn htB hVB; have dR := dR.turn htB hRB; have dN := dN.before htB hNB; have nP := nP.turn htB hPB; have cR := dR.cells; have fR := dR.frees; have qy2 := qy2 (by omega); have hwy2 : IntKind.i64.wrap (1 + y2) = 1 + y2 := wrap_in (by omega))
        | (go_at_call 22; refine (next_sc hs5d 5 (by omega) (by omega)).mono ?_; rintro e v1 ⟨y1, rfl, ⟨py1, qy1, -⟩, hsA, htA⟩; (try replace htA := Turn.undrew htA); have dV := dV.turn htA hVB; have dR := dR.turn htA hRB; have dN := dN.before htA hNB; have nP := nP.turn htA hPB; have cR := dR.cells; have fR := dR.frees; have qy1 := qy1 (by omega); have hwy1 : IntKind.i64.wrap (1 + y1) = 1 + y1 := wrap_in (by omega)))
    go_wp2
    refine bodyPost_ret (v := .tuple #[.agg #[.int .i64 o, .slice (some ⟨w4.heap.size, 0, none⟩) 6 6, .int .i64 nx, .int .i64 md, .int .i64 lo], .int .i64 q1, .int .i64 q2]) (by simp [results, Try.results14, go_sem, cR]) rfl ?_
    refine (fun (hT : Turn (fun k => k = w.heap.size) v6 _) => ⟨o, nx, md, lo, [1, 2, 3, 4, 5, 6], (some ⟨w4.heap.size, 0, none⟩), 6, 6, q1, q2, rfl, hlx, hm7, nP.turn hT hPR, hnil, dN.before hT (fun i hi e => by omega)⟩) ?_
    exact Turn.hereD (Turn.hereD (Turn.hereD (Turn.hereD (Turn.hereD (Turn.refl _ _) _) _) _) _) _

end Go.Proofs.Ytidibaknahfmmaa
