/- What is proved here: what the drawing of rules, a number, a prefix and attributes answers. -/
import Derived.Test.YtidibaknahfmmaaDrawRz
import Derived.Deep.RegionHeld3
import Derived.Deep.CutRange
namespace Go.Proofs.Ytidibaknahfmmaa
open Go.RowKit Go.Sort
set_option linter.unusedVariables false

theorem OvR.rsAt {w : World} {lo : Nat} {y : Option Addr} {n c : Nat} {rs : List Ru} (h : OvR w lo (.slice y n c) rs) : RsAt w y rs ∧ ∀ x, y = some x → lo ≤ x.block := by
  rcases h.form with ⟨e0, rfl⟩ | ⟨g, c', e1, hg, _, ho⟩
  · cases e0
    exact ⟨RsAt.nil _ _, by intro x hx; cases hx⟩
  · have e2 : y = some ⟨g, 0, none⟩ := by simp at e1; exact e1.1
    subst e2
    exact ⟨ho.rs, by intro x hx; obtain rfl := Option.some.inj hx; exact hg⟩
theorem Turn.hereLd {w wr : World} {A B j : Nat} (h : Turn (fun k => k = A ∨ k = B) w wr) (v : Value) : Turn (fun k => k = A ∨ k = B) w (wr.setCell ⟨A, j, none⟩ v) := h.set (Or.inl rfl) v
theorem Turn.hereRd {w wr : World} {A B j : Nat} (h : Turn (fun k => k = A ∨ k = B) w wr) (v : Value) : Turn (fun k => k = A ∨ k = B) w (wr.setCell ⟨B, j, none⟩ v) := h.set (Or.inr rfl) v

set_option maxHeartbeats 6400000 in
theorem drawApply (a : Option Addr) (n c : Nat) (zs : List Int) (w : World) (h : BsAt w a zs) (hn : zs.length = n) (hm : n ≤ 2097152) (ha : ∀ x, zs ≠ [] → a = some x → x.block < w.heap.size) :
    Calls Try.prog 6 #[.slice a n c] w fun e w' => ∃ (y : Option Addr) (rn rk : Nat) (rs : List Ru) (z p q o nx md lo : Int) (xs : List Int) (xa : Option Addr) (xc m : Nat), e = .returned (.tuple #[.slice y rn rk, .int .i64 z, .agg #[.int .i64 p, .int .i64 q], .agg #[.int .i64 o, .slice xa m xc, .int .i64 nx, .int .i64 md, .int .i64 lo]]) ∧ rs.length = rn ∧ rn ≤ 9 ∧ RsAt w' y rs ∧ xs.length = m ∧ m ≤ 7 ∧ NsAt w' xa xs ∧ (xa = none → m = 0 ∧ xc = 0) ∧ New w w' := by
  have N0 : New w ((w.alloc (.cells #[.int .i64 0, .int .i64 0] 26)).alloc (.cells #[.int .i64 0, .slice none 0 0, .int .i64 0, .int .i64 0, .int .i64 0] 29)) := ((New.refl w).alloc _).alloc _
  have b10 : Blk ((w.alloc (.cells #[.int .i64 0, .int .i64 0] 26)).alloc (.cells #[.int .i64 0, .slice none 0 0, .int .i64 0, .int .i64 0, .int .i64 0] 29)) w.heap.size 26 #[.int .i64 0, .int .i64 0] := (Blk.mk _ _ _ _ rfl).alloc _
  have b20 : Blk ((w.alloc (.cells #[.int .i64 0, .int .i64 0] 26)).alloc (.cells #[.int .i64 0, .slice none 0 0, .int .i64 0, .int .i64 0, .int .i64 0] 29)) (w.heap.size + 1) 29 #[.int .i64 0, .slice none 0 0, .int .i64 0, .int .i64 0, .int .i64 0] := Blk.mk _ _ _ _ (by simp)
  have y0 : w.heap.size + 2 ≤ ((w.alloc (.cells #[.int .i64 0, .int .i64 0] 26)).alloc (.cells #[.int .i64 0, .slice none 0 0, .int .i64 0, .int .i64 0, .int .i64 0] 29)).heap.size := by simp
  go_enter Try.func6, Try.ntmps6
  go_wp2_with fail
  refine (source_any a n c zs _ (h.new N0) hn hm (fun x h1 h2 => Nat.lt_of_lt_of_le (ha x h1 h2) (by omega))).mono ?_
  rintro e w1 ⟨B, rfl, hB, hs1, hn1⟩
  have b11 := b10.new hn1
  have b21 := b20.new hn1
  have N1 := N0.trans hn1
  have lB := hs1.blk.lt
  have hBw : w.heap.size + 2 ≤ B := by omega
  have hRB1 : ¬ w.heap.size = B := by omega
  have hRB2 : ¬ w.heap.size + 1 = B := by omega
  have hNB : ∀ i, i < w.heap.size → ¬ i = B := fun i hi e => by omega
  clear b10 b20 hn1 N0
  go_wp2_with fail
  refine (l6Rules_sc hs1 (by omega)).mono ?_
  rintro e w2 ⟨y, rn, rk, rs, t2, rfl, ov2, hlr, hr9, ht2, hs2, tn2⟩
  have hLB : ∀ {W : Nat} (k : Nat), w1.heap.size ≤ k → k < W → ¬ k = B := fun k h1 _ e => by omega
  have b12 := b11.turn tn2 hRB1
  have b22 := b21.turn tn2 hRB2
  have N2 := N1.before tn2 hNB
  have s2 := tn2.size
  clear b11 b21 N1 tn2 hs1
  go_wp2_with fail
  refine (l2Bent_sc hs2 (by omega)).mono ?_
  rintro e w3 ⟨p, q, t3, rfl, -, -, ht3, hs3, tn3⟩
  have b13 := b12.turn tn3 hRB1
  have b23 := b22.turn tn3 hRB2
  have N3 := N2.before tn3 hNB
  have ov3 := ov2.turn tn3 hLB
  have s3 := tn3.size
  clear b12 b22 N2 tn3 hs2 ov2
  go_upto_region 4 with fail
  have hal : New w3 (w3.alloc (.cells #[.int .i64 p, .int .i64 q] 26)) := (New.refl _).alloc _
  have bV4 : Blk (w3.alloc (.cells #[.int .i64 p, .int .i64 q] 26)) w3.heap.size 26 #[.int .i64 p, .int .i64 q] := Blk.mk _ _ _ _ rfl
  have b14 := b13.new hal
  have b24 := b23.new hal
  have N4 := N3.trans hal
  have ov4 := ov3.turn hal (fun _ _ _ f => f)
  have hs4 := hs3.new hal
  have hVB : ¬ w3.heap.size = B := by omega
  have neV1 : ¬ w.heap.size = w3.heap.size := by omega
  have neV2 : ¬ w.heap.size + 1 = w3.heap.size := by omega
  have ne12 : ¬ w.heap.size = w.heap.size + 1 := by omega
  have ne21 : ¬ w.heap.size + 1 = w.heap.size := by omega
  clear b13 b23 N3 ov3 hs3 hal
  generalize (w3.alloc (.cells #[.int .i64 p, .int .i64 q] 26)) = w4 at *
  have dV := bV4
  have d1 := b14
  have d2 := b24
  have dN := N4
  have dL := ov4
  have cV4 := bV4.cells
  have hs4d := hs4.new ((New.refl _).drew)
  go_region_held3 (fun W => ∀ j, W.cell? ⟨w3.heap.size, j, none⟩ = #[Value.int .i64 p, .int .i64 q][j]?) (exact (fun j => by (try simp (disch := (first | exact neV1 | exact neV2)) only [cell_set6d]); first | exact cV4 j | exact dV.cells j | exact (dV.alloc _).cells j))
    (first
      | (go_at_call 23; refine (l3BentAttrs_sc hsC (by omega)).mono ?_; rintro e v4 ⟨o, nx, md, lo, xs, xa, xc, m, t4, rfl, hlx, hm7, -, -, hxb, ht4, hM, hsD, htD⟩; (try replace htD := Turn.undrew htD); have dV := dV.turn htD hVB; have d1 := d1.turn htD hRB1; have d2 := d2.turn htD hRB2; have dN := dN.before htD hNB; have dL := dL.turn htD hLB; have c1 := d1.cells; have f1 := d1.frees; have c2 := d2.cells; have f2 := d2.frees; have sD := htD.size)
      | (go_at_call 21; refine (pick_sc (hsB.new ((New.refl _).alloc (.cells #[.int .i64 (1 + y1), .int .i64 (1 + y2), .int .i64 0] 2))) [1 + y1, 1 + y2, 0] (Blk.mk v2 v2.heap.size 2 #[.int .i64 (1 + y1), .int .i64 (1 + y2), .int .i64 0] rfl) 3 rfl (by omega) (by omega) (by omega)).mono ?_; rintro e v3 ⟨q1, rfl, -, hsC, htC⟩; (try replace htC := Turn.undrew htC); have dV := (dV.alloc _).turn htC hVB; have d1 := (d1.alloc _).turn htC hRB1; have d2 := (d2.alloc _).turn htC hRB2; have dN := (dN.alloc _).before htC hNB; have dL := (dL.turn (S := fun _ => False) ((New.refl _).alloc _) (fun _ _ _ f => f)).turn htC hLB; have c1 := d1.cells; have f1 := d1.frees; have c2 := d2.cells; have f2 := d2.frees; have l3 := d2.lt)
      | (go_at_call 22; refine (next_sc hsA 5 (by omega) (by omega)).mono ?_; rintro e v2 ⟨y2, rfl, ⟨py2, qy2, -⟩, hsB, htB⟩; (try replace htB := Turn.undrew htB); have dV := dV.turn htB hVB; have d1 := d1.turn htB hRB1; have d2 := d2.turn htB hRB2; have dN := dN.before htB hNB; have dL := dL.turn htB hLB; have c1 := d1.cells; have f1 := d1.frees; have c2 := d2.cells; have f2 := d2.frees; have qy2 := qy2 (by omega); have hwy2 : IntKind.i64.wrap (1 + y2) = 1 + y2 := wrap_in (by omega))
      | (go_at_call 22; refine (next_sc hs4d 5 (by omega) (by omega)).mono ?_; rintro e v1 ⟨y1, rfl, ⟨py1, qy1, -⟩, hsA, htA⟩; (try replace htA := Turn.undrew htA); have dV := dV.turn htA hVB; have d1 := d1.turn htA hRB1; have d2 := d2.turn htA hRB2; have dN := dN.before htA hNB; have dL := dL.turn htA hLB; have c1 := d1.cells; have f1 := d1.frees; have c2 := d2.cells; have f2 := d2.frees; have qy1 := qy1 (by omega); have hwy1 : IntKind.i64.wrap (1 + y1) = 1 + y1 := wrap_in (by omega)))
  all_goals
    obtain ⟨aM, cM, eM, nP, rP⟩ := hM.ns (fun z hz => by have := hxb z hz; unfold In6; omega)
    have hnil : xa = none → m = 0 ∧ xc = 0 := by
      intro e0
      rcases hM with ⟨e1, e2⟩ | ⟨g, cc, e1, _, _⟩
      · cases e1
        exact ⟨rfl, rfl⟩
      · subst e0
        cases e1
    have eA : xa = aM := by cases eM; rfl
    subst eA
    obtain ⟨hR, rR⟩ := dL.rsAt
    clear hM eM
    go_wp2
    refine bodyPost_ret (v := .tuple #[.slice y rn rk, .int .i64 q1, .agg #[.int .i64 p, .int .i64 q], .agg #[.int .i64 o, .slice xa m xc, .int .i64 nx, .int .i64 md, .int .i64 lo]]) (by simp [results, Try.results6, go_sem, c1, c2]) rfl ?_
    refine (fun (hT : Turn (fun k => k = w.heap.size ∨ k = w.heap.size + 1) v4 _) => ⟨y, rn, rk, rs, q1, p, q, o, nx, md, lo, xs, xa, xc, m, rfl, hlr, hr9, hR.turn hT (fun x _ hx e => by have := rR x hx; omega), hlx, hm7, nP.turn hT (fun x _ hx e => by have := (rP x hx).1; omega), hnil, dN.before hT (fun i hi e => by omega)⟩) ?_
    first
    | exact Turn.hereRd (Turn.hereRd (Turn.hereRd (Turn.hereRd (Turn.hereRd (Turn.hereLd (Turn.hereLd (Turn.refl _ _) _) _) _) _) _) _) _
    | exact Turn.hereLd (Turn.hereLd (Turn.hereRd (Turn.hereRd (Turn.hereRd (Turn.hereRd (Turn.hereRd (Turn.refl _ _) _) _) _) _) _) _) _

end Go.Proofs.Ytidibaknahfmmaa
