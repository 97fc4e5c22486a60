/- What is proved here: what the model's l14Without answers: a pair of the call's own without the mail told. -/
import Derived.Test.YtebkdaddndlmoaaGreatLL31
import Derived.Test.YtebkdaddndlmoaaGreatLL36
namespace Go.Proofs.YtebkdaddndlmoaaGreat
open Go.ChangeShapes Go.WideShapes Go.ChangeAt Go.RowKit Go.Deep Go.Sort
set_option linter.unusedVariables false
set_option linter.unusedSimpArgs false
set_option maxRecDepth 100000


theorem PrOw.turnC {w w' : World} {b0 b1 : Nat} {col : Nat → Nat} {P : PrV} {S : Nat → Prop} (h : PrOw w b0 b1 col P) (t : Turn S w w') (hS : ∀ x, b0 ≤ x → x < b1 → ¬ col x = 0 → ¬ S x) : PrOw w' b0 b1 col P := by
  obtain ⟨lo, hi, hs, hc⟩ := h.oS
  have H : ∀ i x, ¬ i = 0 → Cl col b0 b1 i x → ¬ S x := fun i x hi hx => hS x hx.2.1 hx.2.2 (by rw [hx.1]; exact hi)
  exact ⟨h.o1.turn t (fun k hk => H 5 k (by decide) (h.k1 k hk)), h.o2.turn t (fun k hk => H 6 k (by decide) (h.k2 k hk)), h.k1, h.k2, h.oN.turn t (fun x hx => H 1 x (by decide) hx), h.oW.turn t (fun x hx => H 2 x (by decide) hx), h.oQ.turn t (fun x hx => H 3 x (by decide) hx), ⟨lo, hi, hs.turn t (fun k a b => H 4 k (by decide) (hc k a b)), hc⟩, h.bW, h.bM⟩
theorem PrOw.cutC {w w1 : World} {b0 b1 : Nat} {col : Nat → Nat} {P : PrV} (h : PrOw w b0 b1 col P) (t : New w w1) (hb : b1 ≤ w.heap.size) {k : Nat} (hk : k < P.nM) (hl : P.VM.length = P.nM) {a : Option Addr} {c : Nat} (hr : w1.ownsRow w.heap.size 137 10 (.slice a (P.nM - 1) c) (P.nM - 1) (cellsMq (P.VM.take k ++ P.VM.drop (k + 1)))) : ∃ col', PrOw w1 b0 w1.heap.size col' (P.drop k a c) ∧ ∀ x, b1 ≤ x → x < w.heap.size → col' x = 0 := by
  have hs := t.size
  have hc : ∀ i x, Cl col b0 b1 i x → Cl (fun x => if w.heap.size ≤ x then 3 else if x < b1 then col x else 0) b0 w1.heap.size i x := by
    intro i x hx
    have h1 := hx.2.2
    have h2 : ¬ w.heap.size ≤ x := by omega
    exact ⟨by simp [h2, hx.1, h1], hx.2.1, by omega⟩
  obtain ⟨lo, hi, hS, hcS⟩ := (h.new t).oS
  have h' := h.new t
  refine ⟨fun x => if w.heap.size ≤ x then 3 else if x < b1 then col x else 0, ⟨h'.o1, h'.o2, fun j hj => hc _ _ (h.k1 j hj), fun j hj => hc _ _ (h.k2 j hj), h'.oN.mono (fun x => hc _ x), h'.oW.mono (fun x => hc _ x), ?_, ⟨lo, hi, hS, fun x h1 h2 => hc _ _ (hcS x h1 h2)⟩, h.bW, ?_⟩, (by intro x h1 h2; simp [show ¬ w.heap.size ≤ x by omega, show ¬ x < b1 by omega])⟩
  · rcases h.oQ with ⟨-, e, -⟩ | ⟨g, e, q⟩
    · omega
    · rcases hr.2 with ⟨e2, h0⟩ | ⟨g', c', cur, e2, hb', hg', h1⟩
      · simp only [Value.slice.injEq] at e2
        obtain ⟨rfl, h3, rfl⟩ := e2
        refine .inl ⟨rfl, h3, rfl, ?_⟩
        have h4 := hr.1
        rw [cellsMq_len] at h4
        exact List.eq_nil_of_length_eq_zero (by show (P.VM.take k ++ P.VM.drop (k + 1)).length = 0; omega)
      · simp only [Value.slice.injEq] at e2
        obtain ⟨rfl, -, rfl⟩ := e2
        have hlt : g' < w1.heap.size := (Array.getElem?_eq_some_iff.1 hg').1
        refine .inr ⟨g', rfl, q.cut k t (own_base hr) ?_ ?_⟩
        · exact ⟨by simp [hb'], by have := q.glo.2; omega, hlt⟩
        · intro x hx
          exact ⟨hc _ _ hx, by have := hx.2.2; omega⟩
  · intro u hu
    refine h.bM u ?_
    rcases List.mem_append.1 hu with e | e
    · exact List.mem_of_mem_take e
    · exact List.mem_of_mem_drop e

set_option maxHeartbeats 12800000 in
theorem l14Wo (P : PrV) (k : Nat) (b0 b1 : Nat) (col : Nat → Nat) (w : World) (ho : PrOw w b0 b1 col P) (hl : PrL P) (hW : SomW P.VW) (hM : SomM P.VM) (h1 : ∃ g, P.a1 = some ⟨g, 0, none⟩) (h2 : ∃ g, P.a2 = some ⟨g, 0, none⟩) (hkP : k < P.nM) :
    Calls Tryz.prog 67 #[.agg #[.int .i64 P.sa, .int .i64 P.si, .int .i64 P.ho, .int .i64 P.nx, .slice P.a1 P.n1 P.c1, .slice P.a2 P.n2 P.c2, .slice P.aN P.nN P.cN, .slice P.aW P.nW P.cW, .slice P.aM P.nM P.cM, .slice P.aS P.nS P.cS], .int .i64 k] w fun e w' => ∃ R col', e = .returned (.agg #[.int .i64 R.sa, .int .i64 R.si, .int .i64 R.ho, .int .i64 R.nx, .slice R.a1 R.n1 R.c1, .slice R.a2 R.n2 R.c2, .slice R.aN R.nN R.cN, .slice R.aW R.nW R.cW, .slice R.aM R.nM R.cM, .slice R.aS R.nS R.cS]) ∧ PrE R (P.drop k none 0) ∧ PrOw w' w.heap.size w'.heap.size col' R ∧ New w w' := by
  have hw : New w ((w.alloc (.cells #[.int .i64 P.sa, .int .i64 P.si, .int .i64 P.ho, .int .i64 P.nx, .slice P.a1 P.n1 P.c1, .slice P.a2 P.n2 P.c2, .slice P.aN P.nN P.cN, .slice P.aW P.nW P.cW, .slice P.aM P.nM P.cM, .slice P.aS P.nS P.cS] 44)).alloc (.cells #[.int .i64 0, .int .i64 0, .int .i64 0, .int .i64 0, .slice none 0 0, .slice none 0 0, .slice none 0 0, .slice none 0 0, .slice none 0 0, .slice none 0 0] 44)) := ((New.refl w).alloc _).alloc _
  have b0' : Blk ((w.alloc (.cells #[.int .i64 P.sa, .int .i64 P.si, .int .i64 P.ho, .int .i64 P.nx, .slice P.a1 P.n1 P.c1, .slice P.a2 P.n2 P.c2, .slice P.aN P.nN P.cN, .slice P.aW P.nW P.cW, .slice P.aM P.nM P.cM, .slice P.aS P.nS P.cS] 44)).alloc (.cells #[.int .i64 0, .int .i64 0, .int .i64 0, .int .i64 0, .slice none 0 0, .slice none 0 0, .slice none 0 0, .slice none 0 0, .slice none 0 0, .slice none 0 0] 44)) w.heap.size 44 #[.int .i64 P.sa, .int .i64 P.si, .int .i64 P.ho, .int .i64 P.nx, .slice P.a1 P.n1 P.c1, .slice P.a2 P.n2 P.c2, .slice P.aN P.nN P.cN, .slice P.aW P.nW P.cW, .slice P.aM P.nM P.cM, .slice P.aS P.nS P.cS] := (Blk.mk _ _ _ _ rfl).alloc _
  have b1' : Blk ((w.alloc (.cells #[.int .i64 P.sa, .int .i64 P.si, .int .i64 P.ho, .int .i64 P.nx, .slice P.a1 P.n1 P.c1, .slice P.a2 P.n2 P.c2, .slice P.aN P.nN P.cN, .slice P.aW P.nW P.cW, .slice P.aM P.nM P.cM, .slice P.aS P.nS P.cS] 44)).alloc (.cells #[.int .i64 0, .int .i64 0, .int .i64 0, .int .i64 0, .slice none 0 0, .slice none 0 0, .slice none 0 0, .slice none 0 0, .slice none 0 0, .slice none 0 0] 44)) (w.heap.size + 1) 44 #[.int .i64 0, .int .i64 0, .int .i64 0, .int .i64 0, .slice none 0 0, .slice none 0 0, .slice none 0 0, .slice none 0 0, .slice none 0 0, .slice none 0 0] := Blk.mk _ _ _ _ (by simp)
  have s0 : Hid (((w.alloc (.cells #[.int .i64 P.sa, .int .i64 P.si, .int .i64 P.ho, .int .i64 P.nx, .slice P.a1 P.n1 P.c1, .slice P.a2 P.n2 P.c2, .slice P.aN P.nN P.cN, .slice P.aW P.nW P.cW, .slice P.aM P.nM P.cM, .slice P.aS P.nS P.cS] 44)).alloc (.cells #[.int .i64 0, .int .i64 0, .int .i64 0, .int .i64 0, .slice none 0 0, .slice none 0 0, .slice none 0 0, .slice none 0 0, .slice none 0 0, .slice none 0 0] 44)).heap.size = w.heap.size + 1 + 1) := by unfold Hid; simp
  have HH : Hid (∀ X, New w X → Calls Tryz.prog 46 #[.agg #[.int .i64 P.sa, .int .i64 P.si, .int .i64 P.ho, .int .i64 P.nx, .slice P.a1 P.n1 P.c1, .slice P.a2 P.n2 P.c2, .slice P.aN P.nN P.cN, .slice P.aW P.nW P.cW, .slice P.aM P.nM P.cM, .slice P.aS P.nS P.cS]] X fun e w' => ∃ Q col, e = .returned (.agg #[.int .i64 Q.sa, .int .i64 Q.si, .int .i64 Q.ho, .int .i64 Q.nx, .slice Q.a1 Q.n1 Q.c1, .slice Q.a2 Q.n2 Q.c2, .slice Q.aN Q.nN Q.cN, .slice Q.aW Q.nW Q.cW, .slice Q.aM Q.nM Q.cM, .slice Q.aS Q.nS Q.cS]) ∧ PrE Q P ∧ PrOw w' X.heap.size w'.heap.size col Q ∧ New X w') := fun X hX => sCopyPr P X (ho.rd.new hX) hl ho.nl.1 ho.nl.2 hW.nl hM.nl (by obtain ⟨g, e⟩ := h1; intro e'; rw [e'] at e; cases e) (by obtain ⟨g, e⟩ := h2; intro e'; rw [e'] at e; cases e)
  have HL : Hid (PrL P) := hl
  have c0 := b0'.cells
  clear ho hl hW hM h1 h2
  obtain ⟨i0, hi, hz0, hz1, hz2⟩ := info_parts Tryz.infoMq
  go_enter Tryz.func67, Tryz.ntmps67
  go_wp2_with fail
  refine (HH.out _ hw).mono ?_
  rintro e w2 ⟨Q, cq, rfl, eQ, oQ, hn2⟩
  have S0 := s0.out
  have n2 := hw.trans hn2
  have z2 := hn2.size
  have p1 := b1'.new hn2
  have lQ := eQ.lim HL.out
  have hkq : k < Q.nM := by rw [eQ.nM]; exact hkP
  have bOut := Blk.mk w2 w2.heap.size 44 #[.int .i64 0, .int .i64 0, .int .i64 0, .int .i64 0, .slice none 0 0, .slice none 0 0, .slice none 0 0, .slice none 0 0, .slice none 0 0, .slice none 0 0] rfl
  have fOut := bOut.frees
  have cOut := bOut.cells
  clear c0 b0' b1' hw hn2 hkP
  go_upto_region 2 with fail
  clear fOut cOut bOut
  have b3 := Blk.mk w2 w2.heap.size 44 #[.int .i64 Q.sa, .int .i64 Q.si, .int .i64 Q.ho, .int .i64 Q.nx, .slice Q.a1 Q.n1 Q.c1, .slice Q.a2 Q.n2 Q.c2, .slice Q.aN Q.nN Q.cN, .slice Q.aW Q.nW Q.cW, .slice Q.aM Q.nM Q.cM, .slice Q.aS Q.nS Q.cS] rfl
  have n23 : New w2 (w2.alloc (.cells #[.int .i64 Q.sa, .int .i64 Q.si, .int .i64 Q.ho, .int .i64 Q.nx, .slice Q.a1 Q.n1 Q.c1, .slice Q.a2 Q.n2 Q.c2, .slice Q.aN Q.nN Q.cN, .slice Q.aW Q.nW Q.cW, .slice Q.aM Q.nM Q.cM, .slice Q.aS Q.nS Q.cS] 44)) := (New.refl w2).alloc _
  have z3 : (w2.alloc (.cells #[.int .i64 Q.sa, .int .i64 Q.si, .int .i64 Q.ho, .int .i64 Q.nx, .slice Q.a1 Q.n1 Q.c1, .slice Q.a2 Q.n2 Q.c2, .slice Q.aN Q.nN Q.cN, .slice Q.aW Q.nW Q.cW, .slice Q.aM Q.nM Q.cM, .slice Q.aS Q.nS Q.cS] 44)).heap.size = w2.heap.size + 1 := by simp
  have p13 := p1.new n23
  have n3 := n2.trans n23
  obtain ⟨bA, hbA, oQ'⟩ : ∃ bA, bA = w.heap.size + 1 + 1 ∧ PrOw w2 bA w2.heap.size cq Q := ⟨_, S0, oQ⟩
  have o3 := oQ'.new n23
  clear oQ oQ' p1 n2
  generalize w2.alloc (.cells #[.int .i64 Q.sa, .int .i64 Q.si, .int .i64 Q.ho, .int .i64 Q.nx, .slice Q.a1 Q.n1 Q.c1, .slice Q.a2 Q.n2 Q.c2, .slice Q.aN Q.nN Q.cN, .slice Q.aW Q.nW Q.cW, .slice Q.aM Q.nM Q.cM, .slice Q.aS Q.nS Q.cS] 44) = w3 at *
  obtain ⟨g, ea, oq⟩ : ∃ g, Q.aM = some ⟨g, 0, none⟩ ∧ OwQ1 w3 (Cl cq bA w2.heap.size 3) g Q.nM Q.cM Q.VM := by
    rcases o3.oQ with ⟨-, e, -⟩ | h
    · omega
    · exact h
  have hc : Q.nM ≤ Q.cM := (row_fit oq.row).1
  have hm := lQ.mM
  have hk := hkq
  have hsz : w2.heap.size ≤ w3.heap.size := by omega
  have BQ : Hid (Blk w3 w2.heap.size 44 #[.int .i64 Q.sa, .int .i64 Q.si, .int .i64 Q.ho, .int .i64 Q.nx, .slice Q.a1 Q.n1 Q.c1, .slice Q.a2 Q.n2 Q.c2, .slice Q.aN Q.nN Q.cN, .slice Q.aW Q.nW Q.cW, .slice Q.aM Q.nM Q.cM, .slice Q.aS Q.nS Q.cS]) := b3
  have B1Q : Hid (Blk w3 (w.heap.size + 1) 44 #[.int .i64 0, .int .i64 0, .int .i64 0, .int .i64 0, .slice none 0 0, .slice none 0 0, .slice none 0 0, .slice none 0 0, .slice none 0 0, .slice none 0 0]) := p13
  have OQ : Hid (PrOw w3 bA w2.heap.size cq Q) := o3
  have OQ1 : Hid (OwQ1 w3 (Cl cq bA w2.heap.size 3) g Q.nM Q.cM Q.VM) := oq
  have LQ : Hid (PrL Q) := lQ
  have EA : Hid (Q.aM = some ⟨g, 0, none⟩) := ea
  clear ea
  have EQ : Hid (PrE Q P) := eQ
  have NW : Hid (New w w3) := n3
  have k0 : ¬ (k : Int) < 0 := by omega
  have k00 : (0 : Int) ≤ (k : Int) := by omega
  have k1 : (k : Int) ≤ (Q.nM : Int) := by omega
  have k2 : (k : Int) ≤ (Q.cM : Int) := by omega
  have k3 : (k : Int) + 1 ≤ (Q.nM : Int) := by omega
  have k4 : (0 : Int) ≤ (k : Int) + 1 := by omega
  have k5 : (Q.nM : Int) ≤ (Q.cM : Int) := by omega
  have kw : IntKind.i64.wrap ((k : Int) + 1) = (k : Int) + 1 := by rw [IntKind.wrap_i64]; omega
  have kt : ((k : Int) + 1).toNat = k + 1 := by omega
  clear b3 p13 o3 oq lQ eQ n3 n23
  refine hw_start (n := 14) (S := fun _ => True) rfl (by kernel_rfl) (trivial) (fun hH => ?_)
  have nv0 : New w3 w3.drew := (New.refl w3).drew
  generalize w3.drew = v0 at *
  refine' hw_take 1 (some 9) _ rfl rfl (by kernel_rfl) (by kernel_rfl) (by kernel_rfl) (fun _ _ _ h => h) (by rfl) trivial ?hy1 ?rest1
  case hy1 =>
    intro X hX
    go_simp
    try rfl
  simp only [Act.put, List.setIfInBounds_toArray, List.set_cons_zero, List.set_cons_succ]
  refine' hw_take 3 (some 11) _ rfl rfl (by kernel_rfl) (by kernel_rfl) (by kernel_rfl) (fun _ _ _ h => h) (by rfl) trivial ?hy2 ?rest2
  case hy2 =>
    intro X hX
    go_simp
    try rfl
  simp only [Act.put, List.setIfInBounds_toArray, List.set_cons_zero, List.set_cons_succ]
  refine' hw_take 6 (some 14) _ rfl rfl (by kernel_rfl) (by kernel_rfl) (by kernel_rfl) (fun _ _ _ h => h) (by rfl) trivial ?hy3 ?rest3
  case hy3 =>
    intro X hX
    go_simp
    try rfl
  simp only [Act.put, List.setIfInBounds_toArray, List.set_cons_zero, List.set_cons_succ]
  refine' hw_take 8 (some 16) _ rfl rfl (by kernel_rfl) (by kernel_rfl) (by kernel_rfl) (fun _ _ _ h => h) (by rfl) trivial ?hy4 ?rest4
  case hy4 =>
    intro X hX
    go_simp
    try rfl
  simp only [Act.put, List.setIfInBounds_toArray, List.set_cons_zero, List.set_cons_succ]
  refine' hw_take 9 (some 17) _ rfl rfl (by kernel_rfl) (by kernel_rfl) (by kernel_rfl) (fun _ _ _ h => h) (by rfl) trivial ?hy5 ?rest5
  case hy5 =>
    intro X hX
    go_simp
    try simp only [kw, kt, if_pos (And.intro k4 k3)]
    try rfl
  simp only [Act.put, List.setIfInBounds_toArray, List.set_cons_zero, List.set_cons_succ]
  refine wpAnyH_ready (rs := [0, 2, 7]) (by kernel_rfl) (by simp) (hw_step 0 (some 8) rfl rfl (by rfl) (fun K hK => ?u1) (hw_step 2 (some 10) rfl rfl (by rfl) (fun K hK => ?u2) (hw_step 7 (some 15) rfl rfl (by rfl) (fun K hK => ?u3) (by intro j hj; cases hj))))
  case u1 =>
    go_simp
    have nnu4 := (New.refl v0).alloc (.cells #[] 137)
    have r0 : (v0.alloc (.cells #[] 137)).ownsRow w3.heap.size 137 10 (.slice (some ⟨v0.heap.size, 0, none⟩) 0 0) 0 [] := ⟨rfl, .inr ⟨v0.heap.size, 0, _, rfl, nv0.size, heap_alloc_new _ _, Nat.le_refl _, by unfold maxLen; omega, by simp, by simp⟩⟩
    have nu4 := nv0.trans nnu4
    refine hK.out _ _ trivial (fun _ => ?_)
    simp only [Act.put, List.setIfInBounds_toArray, List.set_cons_zero, List.set_cons_succ]
    generalize v0.alloc (.cells #[] 137) = u4 at *
    clear nnu4
    refine wpAnyH_ready (rs := [2, 7]) (by kernel_rfl) (by simp) (hw_step 2 (some 10) rfl rfl (by rfl) (fun K hK => ?u5) (hw_step 7 (some 15) rfl rfl (by rfl) (fun K hK => ?u6) (by intro j hj; cases hj)))
    case u5 =>
      have g8 : u4.cell? ⟨w2.heap.size, 8, none⟩ = some (.slice (some ⟨g, 0, none⟩) Q.nM Q.cM) := by
        have h1 := (BQ.out.new nu4).cells 8
        rw [h1, ← EA.out]; rfl
      go_simp
      refine hK.out _ _ trivial (fun _ => ?_)
      simp only [Act.put, List.setIfInBounds_toArray, List.set_cons_zero, List.set_cons_succ]
      clear g8
      refine' hw_take 4 (some 12) _ rfl rfl (by kernel_rfl) (by kernel_rfl) (by kernel_rfl) (fun _ _ _ h => h) (by rfl) trivial ?hy6 ?rest6
      case hy6 =>
        intro X hX
        go_simp
        try rfl
      simp only [Act.put, List.setIfInBounds_toArray, List.set_cons_zero, List.set_cons_succ]
      refine wpAnyH_ready (rs := [5, 7]) (by kernel_rfl) (by simp) (hw_step 5 (some 13) rfl rfl (by rfl) (fun K hK => ?u8) (hw_step 7 (some 15) rfl rfl (by rfl) (fun K hK => ?u9) (by intro j hj; cases hj)))
      case u8 =>
        refine wp_apG _ (.tmp 8) (.tmp 12) rfl w3.heap.size 10 96 _ Tryz.underlying41 hi hz0 hz1 hz2 rfl (by omega) (by omega) _ 0 [] rfl r0 (some ⟨g, 0, none⟩) k Q.cM (cellsMq (Q.VM.take k)) rfl (by rw [cellsMq_len, List.length_take, LQ.out.lM]; omega) (cellsMq_one _) (by intro e; cases e) ?_ (by omega) nu4.size ?_
        · intro a ea' j u hu
          obtain rfl := (Option.some.inj ea').symm
          rw [Addr.add_lit, Nat.zero_add]
          exact (OQ1.out.new nu4).row_at j u (cells_takeQ _ _ j u hu)
        intro v5 u10 r5 hg5
        rw [Nat.zero_add, List.nil_append] at r5
        have nu10 := nu4.grow hg5 (fun q hq => (rng16 r0 q hq).1)
        refine hK.out _ _ trivial (fun _ => ?_)
        simp only [Act.put, List.setIfInBounds_toArray, List.set_cons_zero, List.set_cons_succ]
        clear hg5 r0
        refine hw_call 7 (some 15) rfl rfl (by kernel_rfl) (by rfl) (fun K hK => ?_)
        have g8 : u10.cell? ⟨w2.heap.size, 8, none⟩ = some (.slice (some ⟨g, 0, none⟩) Q.nM Q.cM) := by
          have h1 := (BQ.out.new nu10).cells 8
          rw [h1, ← EA.out]; rfl
        go_simp
        refine hK.out _ _ trivial (fun _ => ?_)
        simp only [Act.put, List.setIfInBounds_toArray, List.set_cons_zero, List.set_cons_succ]
        clear g8
        refine' hw_take 10 (some 18) _ rfl rfl (by kernel_rfl) (by kernel_rfl) (by kernel_rfl) (fun _ _ _ h => h) (by rfl) trivial ?hy7 ?rest7
        case hy7 =>
          intro X hX
          go_simp
          try simp only [kw, kt, if_pos (And.intro k4 k3)]
          try rfl
        simp only [Act.put, List.setIfInBounds_toArray, List.set_cons_zero, List.set_cons_succ]
        refine hw_call 11 (some 19) rfl rfl (by kernel_rfl) (by rfl) (fun K hK => ?_)
        refine wp_apG _ (.tmp 13) (.tmp 18) rfl w3.heap.size 10 96 _ Tryz.underlying41 hi hz0 hz1 hz2 rfl (by omega) (by omega) v5 k (cellsMq (Q.VM.take k)) rfl r5 (if Q.cM = k + 1 then some ⟨g, 0, none⟩ else some ⟨g, (k + 1) * 10, none⟩) (Q.nM - (k + 1)) (Q.cM - (k + 1)) (cellsMq (Q.VM.drop (k + 1))) rfl (by rw [cellsMq_len, List.length_drop, LQ.out.lM]) (cellsMq_one _) (by intro e; split at e <;> cases e) ?_ (by omega) nu10.size ?_
        · intro a ea' j u hu
          have hj : ¬ Q.cM = k + 1 := by
            intro e
            have h1 := (List.getElem?_eq_some_iff.1 hu).1
            rw [cellsMq_len, List.length_drop, LQ.out.lM] at h1
            omega
          rw [if_neg hj] at ea'
          obtain rfl := (Option.some.inj ea').symm
          rw [Addr.add_lit]
          exact (OQ1.out.new nu10).row_at ((k + 1) * 10 + j) u (cells_dropQ _ _ j u hu)
        intro v6 u12 r6 hg6
        have nu12 := nu10.grow hg6 (fun q hq => (rng16 r5 q hq).1)
        rw [← cellsMq_app, show k + (Q.nM - (k + 1)) = Q.nM - 1 by omega] at r6
        obtain ⟨a, c, rfl, -, -⟩ := row9_form r6
        obtain ⟨col', hcut, hc0⟩ := OQ.out.cutC nu12 hsz hk LQ.out.lM r6
        have bB := BQ.out.new nu12
        have fB := bB.frees
        refine hK.out _ _ trivial (fun _ => ?_)
        simp only [Act.put, List.setIfInBounds_toArray, List.set_cons_zero, List.set_cons_succ]
        clear hg6 r5
        refine' hw_take 12 (some 20) _ rfl rfl (by kernel_rfl) (by kernel_rfl) (by kernel_rfl) (fun _ _ _ h => h) (by rfl) trivial ?hy8 ?rest8
        case hy8 =>
          intro X hX
          go_simp
          try rfl
        simp only [Act.put, List.setIfInBounds_toArray, List.set_cons_zero, List.set_cons_succ]
        refine hw_call 13 none rfl rfl (by kernel_rfl) (by rfl) (fun K hK => ?_)
        have c8 : u12.cell? ⟨w2.heap.size, 8, none⟩ = some (.slice Q.aM Q.nM Q.cM) := bB.cells 8
        go_simp
        refine hK.out undef _ trivial (fun _ => ?_)
        try simp only [Act.put, List.setIfInBounds_toArray, List.set_cons_zero, List.set_cons_succ]
        refine wpAnyH_done (by kernel_rfl) ?_ _
        have t8 : Turn (fun x => x = w2.heap.size) u12 (u12.setCell ⟨w2.heap.size, 8, none⟩ (.slice a (Q.nM - 1) c)) := (Turn.refl (fun x => x = w2.heap.size) u12).set (p := ⟨w2.heap.size, 8, none⟩) rfl _
        have b8 := bB.set 8 (.slice a (Q.nM - 1) c)
        have s8 := t8.size
        have hcut2 := (hcut.turnC t8 (by intro x h1 h2 h3 e; exact h3 (hc0 x (by omega) (by omega)))).up s8
        have p1 := (B1Q.out.new nu12).turn t8 (by omega)
        have nF := (NW.out.trans nu12).before t8 (by intro i hi e; omega)
        have sd := nu12.size
        clear fB c8 t8 hcut bB
        have c2 := b8.cells
        have c1 := p1.cells
        have f1 := p1.frees
        go_wp2
        all_goals refine bodyPost_ret (v := .agg #[.int .i64 (Q.drop k a c).sa, .int .i64 (Q.drop k a c).si, .int .i64 (Q.drop k a c).ho, .int .i64 (Q.drop k a c).nx, .slice (Q.drop k a c).a1 (Q.drop k a c).n1 (Q.drop k a c).c1, .slice (Q.drop k a c).a2 (Q.drop k a c).n2 (Q.drop k a c).c2, .slice (Q.drop k a c).aN (Q.drop k a c).nN (Q.drop k a c).cN, .slice (Q.drop k a c).aW (Q.drop k a c).nW (Q.drop k a c).cW, .slice (Q.drop k a c).aM (Q.drop k a c).nM (Q.drop k a c).cM, .slice (Q.drop k a c).aS (Q.drop k a c).nS (Q.drop k a c).cS]) (by simp [results, Tryz.results67, go_sem, c1, PrV.drop]) rfl ?_
        all_goals exact ⟨Q.drop k a c, rfl, EQ.out.drop k a none c 0, ⟨col', fin10 hcut2 (by omega) (by omega) (Nat.le_refl _) _ _ _ _ _ _ _ _ _ _⟩, new10 nF (by omega) _ _ _ _ _ _ _ _ _ _⟩
      case u9 =>
        have g8 : u4.cell? ⟨w2.heap.size, 8, none⟩ = some (.slice (some ⟨g, 0, none⟩) Q.nM Q.cM) := by
          have h1 := (BQ.out.new nu4).cells 8
          rw [h1, ← EA.out]; rfl
        go_simp
        refine hK.out _ _ trivial (fun _ => ?_)
        simp only [Act.put, List.setIfInBounds_toArray, List.set_cons_zero, List.set_cons_succ]
        clear g8
        refine' hw_take 10 (some 18) _ rfl rfl (by kernel_rfl) (by kernel_rfl) (by kernel_rfl) (fun _ _ _ h => h) (by rfl) trivial ?hy9 ?rest9
        case hy9 =>
          intro X hX
          go_simp
          try simp only [kw, kt, if_pos (And.intro k4 k3)]
          try rfl
        simp only [Act.put, List.setIfInBounds_toArray, List.set_cons_zero, List.set_cons_succ]
        refine hw_call 5 (some 13) rfl rfl (by kernel_rfl) (by rfl) (fun K hK => ?_)
        refine wp_apG _ (.tmp 8) (.tmp 12) rfl w3.heap.size 10 96 _ Tryz.underlying41 hi hz0 hz1 hz2 rfl (by omega) (by omega) _ 0 [] rfl r0 (some ⟨g, 0, none⟩) k Q.cM (cellsMq (Q.VM.take k)) rfl (by rw [cellsMq_len, List.length_take, LQ.out.lM]; omega) (cellsMq_one _) (by intro e; cases e) ?_ (by omega) nu4.size ?_
        · intro a ea' j u hu
          obtain rfl := (Option.some.inj ea').symm
          rw [Addr.add_lit, Nat.zero_add]
          exact (OQ1.out.new nu4).row_at j u (cells_takeQ _ _ j u hu)
        intro v5 u14 r5 hg5
        rw [Nat.zero_add, List.nil_append] at r5
        have nu14 := nu4.grow hg5 (fun q hq => (rng16 r0 q hq).1)
        refine hK.out _ _ trivial (fun _ => ?_)
        simp only [Act.put, List.setIfInBounds_toArray, List.set_cons_zero, List.set_cons_succ]
        clear hg5 r0
        refine hw_call 11 (some 19) rfl rfl (by kernel_rfl) (by rfl) (fun K hK => ?_)
        refine wp_apG _ (.tmp 13) (.tmp 18) rfl w3.heap.size 10 96 _ Tryz.underlying41 hi hz0 hz1 hz2 rfl (by omega) (by omega) v5 k (cellsMq (Q.VM.take k)) rfl r5 (if Q.cM = k + 1 then some ⟨g, 0, none⟩ else some ⟨g, (k + 1) * 10, none⟩) (Q.nM - (k + 1)) (Q.cM - (k + 1)) (cellsMq (Q.VM.drop (k + 1))) rfl (by rw [cellsMq_len, List.length_drop, LQ.out.lM]) (cellsMq_one _) (by intro e; split at e <;> cases e) ?_ (by omega) nu14.size ?_
        · intro a ea' j u hu
          have hj : ¬ Q.cM = k + 1 := by
            intro e
            have h1 := (List.getElem?_eq_some_iff.1 hu).1
            rw [cellsMq_len, List.length_drop, LQ.out.lM] at h1
            omega
          rw [if_neg hj] at ea'
          obtain rfl := (Option.some.inj ea').symm
          rw [Addr.add_lit]
          exact (OQ1.out.new nu14).row_at ((k + 1) * 10 + j) u (cells_dropQ _ _ j u hu)
        intro v6 u15 r6 hg6
        have nu15 := nu14.grow hg6 (fun q hq => (rng16 r5 q hq).1)
        rw [← cellsMq_app, show k + (Q.nM - (k + 1)) = Q.nM - 1 by omega] at r6
        obtain ⟨a, c, rfl, -, -⟩ := row9_form r6
        obtain ⟨col', hcut, hc0⟩ := OQ.out.cutC nu15 hsz hk LQ.out.lM r6
        have bB := BQ.out.new nu15
        have fB := bB.frees
        refine hK.out _ _ trivial (fun _ => ?_)
        simp only [Act.put, List.setIfInBounds_toArray, List.set_cons_zero, List.set_cons_succ]
        clear hg6 r5
        refine' hw_take 12 (some 20) _ rfl rfl (by kernel_rfl) (by kernel_rfl) (by kernel_rfl) (fun _ _ _ h => h) (by rfl) trivial ?hy10 ?rest10
        case hy10 =>
          intro X hX
          go_simp
          try rfl
        simp only [Act.put, List.setIfInBounds_toArray, List.set_cons_zero, List.set_cons_succ]
        refine hw_call 13 none rfl rfl (by kernel_rfl) (by rfl) (fun K hK => ?_)
        have c8 : u15.cell? ⟨w2.heap.size, 8, none⟩ = some (.slice Q.aM Q.nM Q.cM) := bB.cells 8
        go_simp
        refine hK.out undef _ trivial (fun _ => ?_)
        try simp only [Act.put, List.setIfInBounds_toArray, List.set_cons_zero, List.set_cons_succ]
        refine wpAnyH_done (by kernel_rfl) ?_ _
        have t8 : Turn (fun x => x = w2.heap.size) u15 (u15.setCell ⟨w2.heap.size, 8, none⟩ (.slice a (Q.nM - 1) c)) := (Turn.refl (fun x => x = w2.heap.size) u15).set (p := ⟨w2.heap.size, 8, none⟩) rfl _
        have b8 := bB.set 8 (.slice a (Q.nM - 1) c)
        have s8 := t8.size
        have hcut2 := (hcut.turnC t8 (by intro x h1 h2 h3 e; exact h3 (hc0 x (by omega) (by omega)))).up s8
        have p1 := (B1Q.out.new nu15).turn t8 (by omega)
        have nF := (NW.out.trans nu15).before t8 (by intro i hi e; omega)
        have sd := nu15.size
        clear fB c8 t8 hcut bB
        have c2 := b8.cells
        have c1 := p1.cells
        have f1 := p1.frees
        go_wp2
        all_goals refine bodyPost_ret (v := .agg #[.int .i64 (Q.drop k a c).sa, .int .i64 (Q.drop k a c).si, .int .i64 (Q.drop k a c).ho, .int .i64 (Q.drop k a c).nx, .slice (Q.drop k a c).a1 (Q.drop k a c).n1 (Q.drop k a c).c1, .slice (Q.drop k a c).a2 (Q.drop k a c).n2 (Q.drop k a c).c2, .slice (Q.drop k a c).aN (Q.drop k a c).nN (Q.drop k a c).cN, .slice (Q.drop k a c).aW (Q.drop k a c).nW (Q.drop k a c).cW, .slice (Q.drop k a c).aM (Q.drop k a c).nM (Q.drop k a c).cM, .slice (Q.drop k a c).aS (Q.drop k a c).nS (Q.drop k a c).cS]) (by simp [results, Tryz.results67, go_sem, c1, PrV.drop]) rfl ?_
        all_goals exact ⟨Q.drop k a c, rfl, EQ.out.drop k a none c 0, ⟨col', fin10 hcut2 (by omega) (by omega) (Nat.le_refl _) _ _ _ _ _ _ _ _ _ _⟩, new10 nF (by omega) _ _ _ _ _ _ _ _ _ _⟩
    case u6 =>
      have g8 : u4.cell? ⟨w2.heap.size, 8, none⟩ = some (.slice (some ⟨g, 0, none⟩) Q.nM Q.cM) := by
        have h1 := (BQ.out.new nu4).cells 8
        rw [h1, ← EA.out]; rfl
      go_simp
      refine hK.out _ _ trivial (fun _ => ?_)
      simp only [Act.put, List.setIfInBounds_toArray, List.set_cons_zero, List.set_cons_succ]
      clear g8
      refine' hw_take 10 (some 18) _ rfl rfl (by kernel_rfl) (by kernel_rfl) (by kernel_rfl) (fun _ _ _ h => h) (by rfl) trivial ?hy11 ?rest11
      case hy11 =>
        intro X hX
        go_simp
        try simp only [kw, kt, if_pos (And.intro k4 k3)]
        try rfl
      simp only [Act.put, List.setIfInBounds_toArray, List.set_cons_zero, List.set_cons_succ]
      refine hw_call 2 (some 10) rfl rfl (by kernel_rfl) (by rfl) (fun K hK => ?_)
      have g8 : u4.cell? ⟨w2.heap.size, 8, none⟩ = some (.slice (some ⟨g, 0, none⟩) Q.nM Q.cM) := by
        have h1 := (BQ.out.new nu4).cells 8
        rw [h1, ← EA.out]; rfl
      go_simp
      refine hK.out _ _ trivial (fun _ => ?_)
      simp only [Act.put, List.setIfInBounds_toArray, List.set_cons_zero, List.set_cons_succ]
      clear g8
      refine' hw_take 4 (some 12) _ rfl rfl (by kernel_rfl) (by kernel_rfl) (by kernel_rfl) (fun _ _ _ h => h) (by rfl) trivial ?hy12 ?rest12
      case hy12 =>
        intro X hX
        go_simp
        try rfl
      simp only [Act.put, List.setIfInBounds_toArray, List.set_cons_zero, List.set_cons_succ]
      refine hw_call 5 (some 13) rfl rfl (by kernel_rfl) (by rfl) (fun K hK => ?_)
      refine wp_apG _ (.tmp 8) (.tmp 12) rfl w3.heap.size 10 96 _ Tryz.underlying41 hi hz0 hz1 hz2 rfl (by omega) (by omega) _ 0 [] rfl r0 (some ⟨g, 0, none⟩) k Q.cM (cellsMq (Q.VM.take k)) rfl (by rw [cellsMq_len, List.length_take, LQ.out.lM]; omega) (cellsMq_one _) (by intro e; cases e) ?_ (by omega) nu4.size ?_
      · intro a ea' j u hu
        obtain rfl := (Option.some.inj ea').symm
        rw [Addr.add_lit, Nat.zero_add]
        exact (OQ1.out.new nu4).row_at j u (cells_takeQ _ _ j u hu)
      intro v5 u18 r5 hg5
      rw [Nat.zero_add, List.nil_append] at r5
      have nu18 := nu4.grow hg5 (fun q hq => (rng16 r0 q hq).1)
      refine hK.out _ _ trivial (fun _ => ?_)
      simp only [Act.put, List.setIfInBounds_toArray, List.set_cons_zero, List.set_cons_succ]
      clear hg5 r0
      refine hw_call 11 (some 19) rfl rfl (by kernel_rfl) (by rfl) (fun K hK => ?_)
      refine wp_apG _ (.tmp 13) (.tmp 18) rfl w3.heap.size 10 96 _ Tryz.underlying41 hi hz0 hz1 hz2 rfl (by omega) (by omega) v5 k (cellsMq (Q.VM.take k)) rfl r5 (if Q.cM = k + 1 then some ⟨g, 0, none⟩ else some ⟨g, (k + 1) * 10, none⟩) (Q.nM - (k + 1)) (Q.cM - (k + 1)) (cellsMq (Q.VM.drop (k + 1))) rfl (by rw [cellsMq_len, List.length_drop, LQ.out.lM]) (cellsMq_one _) (by intro e; split at e <;> cases e) ?_ (by omega) nu18.size ?_
      · intro a ea' j u hu
        have hj : ¬ Q.cM = k + 1 := by
          intro e
          have h1 := (List.getElem?_eq_some_iff.1 hu).1
          rw [cellsMq_len, List.length_drop, LQ.out.lM] at h1
          omega
        rw [if_neg hj] at ea'
        obtain rfl := (Option.some.inj ea').symm
        rw [Addr.add_lit]
        exact (OQ1.out.new nu18).row_at ((k + 1) * 10 + j) u (cells_dropQ _ _ j u hu)
      intro v6 u19 r6 hg6
      have nu19 := nu18.grow hg6 (fun q hq => (rng16 r5 q hq).1)
      rw [← cellsMq_app, show k + (Q.nM - (k + 1)) = Q.nM - 1 by omega] at r6
      obtain ⟨a, c, rfl, -, -⟩ := row9_form r6
      obtain ⟨col', hcut, hc0⟩ := OQ.out.cutC nu19 hsz hk LQ.out.lM r6
      have bB := BQ.out.new nu19
      have fB := bB.frees
      refine hK.out _ _ trivial (fun _ => ?_)
      simp only [Act.put, List.setIfInBounds_toArray, List.set_cons_zero, List.set_cons_succ]
      clear hg6 r5
      refine' hw_take 12 (some 20) _ rfl rfl (by kernel_rfl) (by kernel_rfl) (by kernel_rfl) (fun _ _ _ h => h) (by rfl) trivial ?hy13 ?rest13
      case hy13 =>
        intro X hX
        go_simp
        try rfl
      simp only [Act.put, List.setIfInBounds_toArray, List.set_cons_zero, List.set_cons_succ]
      refine hw_call 13 none rfl rfl (by kernel_rfl) (by rfl) (fun K hK => ?_)
      have c8 : u19.cell? ⟨w2.heap.size, 8, none⟩ = some (.slice Q.aM Q.nM Q.cM) := bB.cells 8
      go_simp
      refine hK.out undef _ trivial (fun _ => ?_)
      try simp only [Act.put, List.setIfInBounds_toArray, List.set_cons_zero, List.set_cons_succ]
      refine wpAnyH_done (by kernel_rfl) ?_ _
      have t8 : Turn (fun x => x = w2.heap.size) u19 (u19.setCell ⟨w2.heap.size, 8, none⟩ (.slice a (Q.nM - 1) c)) := (Turn.refl (fun x => x = w2.heap.size) u19).set (p := ⟨w2.heap.size, 8, none⟩) rfl _
      have b8 := bB.set 8 (.slice a (Q.nM - 1) c)
      have s8 := t8.size
      have hcut2 := (hcut.turnC t8 (by intro x h1 h2 h3 e; exact h3 (hc0 x (by omega) (by omega)))).up s8
      have p1 := (B1Q.out.new nu19).turn t8 (by omega)
      have nF := (NW.out.trans nu19).before t8 (by intro i hi e; omega)
      have sd := nu19.size
      clear fB c8 t8 hcut bB
      have c2 := b8.cells
      have c1 := p1.cells
      have f1 := p1.frees
      go_wp2
      all_goals refine bodyPost_ret (v := .agg #[.int .i64 (Q.drop k a c).sa, .int .i64 (Q.drop k a c).si, .int .i64 (Q.drop k a c).ho, .int .i64 (Q.drop k a c).nx, .slice (Q.drop k a c).a1 (Q.drop k a c).n1 (Q.drop k a c).c1, .slice (Q.drop k a c).a2 (Q.drop k a c).n2 (Q.drop k a c).c2, .slice (Q.drop k a c).aN (Q.drop k a c).nN (Q.drop k a c).cN, .slice (Q.drop k a c).aW (Q.drop k a c).nW (Q.drop k a c).cW, .slice (Q.drop k a c).aM (Q.drop k a c).nM (Q.drop k a c).cM, .slice (Q.drop k a c).aS (Q.drop k a c).nS (Q.drop k a c).cS]) (by simp [results, Tryz.results67, go_sem, c1, PrV.drop]) rfl ?_
      all_goals exact ⟨Q.drop k a c, rfl, EQ.out.drop k a none c 0, ⟨col', fin10 hcut2 (by omega) (by omega) (Nat.le_refl _) _ _ _ _ _ _ _ _ _ _⟩, new10 nF (by omega) _ _ _ _ _ _ _ _ _ _⟩
  case u2 =>
    have g8 : v0.cell? ⟨w2.heap.size, 8, none⟩ = some (.slice (some ⟨g, 0, none⟩) Q.nM Q.cM) := by
      have h1 := (BQ.out.new nv0).cells 8
      rw [h1, ← EA.out]; rfl
    go_simp
    refine hK.out _ _ trivial (fun _ => ?_)
    simp only [Act.put, List.setIfInBounds_toArray, List.set_cons_zero, List.set_cons_succ]
    clear g8
    refine' hw_take 4 (some 12) _ rfl rfl (by kernel_rfl) (by kernel_rfl) (by kernel_rfl) (fun _ _ _ h => h) (by rfl) trivial ?hy14 ?rest14
    case hy14 =>
      intro X hX
      go_simp
      try rfl
    simp only [Act.put, List.setIfInBounds_toArray, List.set_cons_zero, List.set_cons_succ]
    refine wpAnyH_ready (rs := [0, 7]) (by kernel_rfl) (by simp) (hw_step 0 (some 8) rfl rfl (by rfl) (fun K hK => ?u21) (hw_step 7 (some 15) rfl rfl (by rfl) (fun K hK => ?u22) (by intro j hj; cases hj)))
    case u21 =>
      go_simp
      have nnu23 := (New.refl v0).alloc (.cells #[] 137)
      have r0 : (v0.alloc (.cells #[] 137)).ownsRow w3.heap.size 137 10 (.slice (some ⟨v0.heap.size, 0, none⟩) 0 0) 0 [] := ⟨rfl, .inr ⟨v0.heap.size, 0, _, rfl, nv0.size, heap_alloc_new _ _, Nat.le_refl _, by unfold maxLen; omega, by simp, by simp⟩⟩
      have nu23 := nv0.trans nnu23
      refine hK.out _ _ trivial (fun _ => ?_)
      simp only [Act.put, List.setIfInBounds_toArray, List.set_cons_zero, List.set_cons_succ]
      generalize v0.alloc (.cells #[] 137) = u23 at *
      clear nnu23
      refine wpAnyH_ready (rs := [5, 7]) (by kernel_rfl) (by simp) (hw_step 5 (some 13) rfl rfl (by rfl) (fun K hK => ?u24) (hw_step 7 (some 15) rfl rfl (by rfl) (fun K hK => ?u25) (by intro j hj; cases hj)))
      case u24 =>
        refine wp_apG _ (.tmp 8) (.tmp 12) rfl w3.heap.size 10 96 _ Tryz.underlying41 hi hz0 hz1 hz2 rfl (by omega) (by omega) _ 0 [] rfl r0 (some ⟨g, 0, none⟩) k Q.cM (cellsMq (Q.VM.take k)) rfl (by rw [cellsMq_len, List.length_take, LQ.out.lM]; omega) (cellsMq_one _) (by intro e; cases e) ?_ (by omega) nu23.size ?_
        · intro a ea' j u hu
          obtain rfl := (Option.some.inj ea').symm
          rw [Addr.add_lit, Nat.zero_add]
          exact (OQ1.out.new nu23).row_at j u (cells_takeQ _ _ j u hu)
        intro v5 u26 r5 hg5
        rw [Nat.zero_add, List.nil_append] at r5
        have nu26 := nu23.grow hg5 (fun q hq => (rng16 r0 q hq).1)
        refine hK.out _ _ trivial (fun _ => ?_)
        simp only [Act.put, List.setIfInBounds_toArray, List.set_cons_zero, List.set_cons_succ]
        clear hg5 r0
        refine hw_call 7 (some 15) rfl rfl (by kernel_rfl) (by rfl) (fun K hK => ?_)
        have g8 : u26.cell? ⟨w2.heap.size, 8, none⟩ = some (.slice (some ⟨g, 0, none⟩) Q.nM Q.cM) := by
          have h1 := (BQ.out.new nu26).cells 8
          rw [h1, ← EA.out]; rfl
        go_simp
        refine hK.out _ _ trivial (fun _ => ?_)
        simp only [Act.put, List.setIfInBounds_toArray, List.set_cons_zero, List.set_cons_succ]
        clear g8
        refine' hw_take 10 (some 18) _ rfl rfl (by kernel_rfl) (by kernel_rfl) (by kernel_rfl) (fun _ _ _ h => h) (by rfl) trivial ?hy15 ?rest15
        case hy15 =>
          intro X hX
          go_simp
          try simp only [kw, kt, if_pos (And.intro k4 k3)]
          try rfl
        simp only [Act.put, List.setIfInBounds_toArray, List.set_cons_zero, List.set_cons_succ]
        refine hw_call 11 (some 19) rfl rfl (by kernel_rfl) (by rfl) (fun K hK => ?_)
        refine wp_apG _ (.tmp 13) (.tmp 18) rfl w3.heap.size 10 96 _ Tryz.underlying41 hi hz0 hz1 hz2 rfl (by omega) (by omega) v5 k (cellsMq (Q.VM.take k)) rfl r5 (if Q.cM = k + 1 then some ⟨g, 0, none⟩ else some ⟨g, (k + 1) * 10, none⟩) (Q.nM - (k + 1)) (Q.cM - (k + 1)) (cellsMq (Q.VM.drop (k + 1))) rfl (by rw [cellsMq_len, List.length_drop, LQ.out.lM]) (cellsMq_one _) (by intro e; split at e <;> cases e) ?_ (by omega) nu26.size ?_
        · intro a ea' j u hu
          have hj : ¬ Q.cM = k + 1 := by
            intro e
            have h1 := (List.getElem?_eq_some_iff.1 hu).1
            rw [cellsMq_len, List.length_drop, LQ.out.lM] at h1
            omega
          rw [if_neg hj] at ea'
          obtain rfl := (Option.some.inj ea').symm
          rw [Addr.add_lit]
          exact (OQ1.out.new nu26).row_at ((k + 1) * 10 + j) u (cells_dropQ _ _ j u hu)
        intro v6 u28 r6 hg6
        have nu28 := nu26.grow hg6 (fun q hq => (rng16 r5 q hq).1)
        rw [← cellsMq_app, show k + (Q.nM - (k + 1)) = Q.nM - 1 by omega] at r6
        obtain ⟨a, c, rfl, -, -⟩ := row9_form r6
        obtain ⟨col', hcut, hc0⟩ := OQ.out.cutC nu28 hsz hk LQ.out.lM r6
        have bB := BQ.out.new nu28
        have fB := bB.frees
        refine hK.out _ _ trivial (fun _ => ?_)
        simp only [Act.put, List.setIfInBounds_toArray, List.set_cons_zero, List.set_cons_succ]
        clear hg6 r5
        refine' hw_take 12 (some 20) _ rfl rfl (by kernel_rfl) (by kernel_rfl) (by kernel_rfl) (fun _ _ _ h => h) (by rfl) trivial ?hy16 ?rest16
        case hy16 =>
          intro X hX
          go_simp
          try rfl
        simp only [Act.put, List.setIfInBounds_toArray, List.set_cons_zero, List.set_cons_succ]
        refine hw_call 13 none rfl rfl (by kernel_rfl) (by rfl) (fun K hK => ?_)
        have c8 : u28.cell? ⟨w2.heap.size, 8, none⟩ = some (.slice Q.aM Q.nM Q.cM) := bB.cells 8
        go_simp
        refine hK.out undef _ trivial (fun _ => ?_)
        try simp only [Act.put, List.setIfInBounds_toArray, List.set_cons_zero, List.set_cons_succ]
        refine wpAnyH_done (by kernel_rfl) ?_ _
        have t8 : Turn (fun x => x = w2.heap.size) u28 (u28.setCell ⟨w2.heap.size, 8, none⟩ (.slice a (Q.nM - 1) c)) := (Turn.refl (fun x => x = w2.heap.size) u28).set (p := ⟨w2.heap.size, 8, none⟩) rfl _
        have b8 := bB.set 8 (.slice a (Q.nM - 1) c)
        have s8 := t8.size
        have hcut2 := (hcut.turnC t8 (by intro x h1 h2 h3 e; exact h3 (hc0 x (by omega) (by omega)))).up s8
        have p1 := (B1Q.out.new nu28).turn t8 (by omega)
        have nF := (NW.out.trans nu28).before t8 (by intro i hi e; omega)
        have sd := nu28.size
        clear fB c8 t8 hcut bB
        have c2 := b8.cells
        have c1 := p1.cells
        have f1 := p1.frees
        go_wp2
        all_goals refine bodyPost_ret (v := .agg #[.int .i64 (Q.drop k a c).sa, .int .i64 (Q.drop k a c).si, .int .i64 (Q.drop k a c).ho, .int .i64 (Q.drop k a c).nx, .slice (Q.drop k a c).a1 (Q.drop k a c).n1 (Q.drop k a c).c1, .slice (Q.drop k a c).a2 (Q.drop k a c).n2 (Q.drop k a c).c2, .slice (Q.drop k a c).aN (Q.drop k a c).nN (Q.drop k a c).cN, .slice (Q.drop k a c).aW (Q.drop k a c).nW (Q.drop k a c).cW, .slice (Q.drop k a c).aM (Q.drop k a c).nM (Q.drop k a c).cM, .slice (Q.drop k a c).aS (Q.drop k a c).nS (Q.drop k a c).cS]) (by simp [results, Tryz.results67, go_sem, c1, PrV.drop]) rfl ?_
        all_goals exact ⟨Q.drop k a c, rfl, EQ.out.drop k a none c 0, ⟨col', fin10 hcut2 (by omega) (by omega) (Nat.le_refl _) _ _ _ _ _ _ _ _ _ _⟩, new10 nF (by omega) _ _ _ _ _ _ _ _ _ _⟩
      case u25 =>
        have g8 : u23.cell? ⟨w2.heap.size, 8, none⟩ = some (.slice (some ⟨g, 0, none⟩) Q.nM Q.cM) := by
          have h1 := (BQ.out.new nu23).cells 8
          rw [h1, ← EA.out]; rfl
        go_simp
        refine hK.out _ _ trivial (fun _ => ?_)
        simp only [Act.put, List.setIfInBounds_toArray, List.set_cons_zero, List.set_cons_succ]
        clear g8
        refine' hw_take 10 (some 18) _ rfl rfl (by kernel_rfl) (by kernel_rfl) (by kernel_rfl) (fun _ _ _ h => h) (by rfl) trivial ?hy17 ?rest17
        case hy17 =>
          intro X hX
          go_simp
          try simp only [kw, kt, if_pos (And.intro k4 k3)]
          try rfl
        simp only [Act.put, List.setIfInBounds_toArray, List.set_cons_zero, List.set_cons_succ]
        refine hw_call 5 (some 13) rfl rfl (by kernel_rfl) (by rfl) (fun K hK => ?_)
        refine wp_apG _ (.tmp 8) (.tmp 12) rfl w3.heap.size 10 96 _ Tryz.underlying41 hi hz0 hz1 hz2 rfl (by omega) (by omega) _ 0 [] rfl r0 (some ⟨g, 0, none⟩) k Q.cM (cellsMq (Q.VM.take k)) rfl (by rw [cellsMq_len, List.length_take, LQ.out.lM]; omega) (cellsMq_one _) (by intro e; cases e) ?_ (by omega) nu23.size ?_
        · intro a ea' j u hu
          obtain rfl := (Option.some.inj ea').symm
          rw [Addr.add_lit, Nat.zero_add]
          exact (OQ1.out.new nu23).row_at j u (cells_takeQ _ _ j u hu)
        intro v5 u30 r5 hg5
        rw [Nat.zero_add, List.nil_append] at r5
        have nu30 := nu23.grow hg5 (fun q hq => (rng16 r0 q hq).1)
        refine hK.out _ _ trivial (fun _ => ?_)
        simp only [Act.put, List.setIfInBounds_toArray, List.set_cons_zero, List.set_cons_succ]
        clear hg5 r0
        refine hw_call 11 (some 19) rfl rfl (by kernel_rfl) (by rfl) (fun K hK => ?_)
        refine wp_apG _ (.tmp 13) (.tmp 18) rfl w3.heap.size 10 96 _ Tryz.underlying41 hi hz0 hz1 hz2 rfl (by omega) (by omega) v5 k (cellsMq (Q.VM.take k)) rfl r5 (if Q.cM = k + 1 then some ⟨g, 0, none⟩ else some ⟨g, (k + 1) * 10, none⟩) (Q.nM - (k + 1)) (Q.cM - (k + 1)) (cellsMq (Q.VM.drop (k + 1))) rfl (by rw [cellsMq_len, List.length_drop, LQ.out.lM]) (cellsMq_one _) (by intro e; split at e <;> cases e) ?_ (by omega) nu30.size ?_
        · intro a ea' j u hu
          have hj : ¬ Q.cM = k + 1 := by
            intro e
            have h1 := (List.getElem?_eq_some_iff.1 hu).1
            rw [cellsMq_len, List.length_drop, LQ.out.lM] at h1
            omega
          rw [if_neg hj] at ea'
          obtain rfl := (Option.some.inj ea').symm
          rw [Addr.add_lit]
          exact (OQ1.out.new nu30).row_at ((k + 1) * 10 + j) u (cells_dropQ _ _ j u hu)
        intro v6 u31 r6 hg6
        have nu31 := nu30.grow hg6 (fun q hq => (rng16 r5 q hq).1)
        rw [← cellsMq_app, show k + (Q.nM - (k + 1)) = Q.nM - 1 by omega] at r6
        obtain ⟨a, c, rfl, -, -⟩ := row9_form r6
        obtain ⟨col', hcut, hc0⟩ := OQ.out.cutC nu31 hsz hk LQ.out.lM r6
        have bB := BQ.out.new nu31
        have fB := bB.frees
        refine hK.out _ _ trivial (fun _ => ?_)
        simp only [Act.put, List.setIfInBounds_toArray, List.set_cons_zero, List.set_cons_succ]
        clear hg6 r5
        refine' hw_take 12 (some 20) _ rfl rfl (by kernel_rfl) (by kernel_rfl) (by kernel_rfl) (fun _ _ _ h => h) (by rfl) trivial ?hy18 ?rest18
        case hy18 =>
          intro X hX
          go_simp
          try rfl
        simp only [Act.put, List.setIfInBounds_toArray, List.set_cons_zero, List.set_cons_succ]
        refine hw_call 13 none rfl rfl (by kernel_rfl) (by rfl) (fun K hK => ?_)
        have c8 : u31.cell? ⟨w2.heap.size, 8, none⟩ = some (.slice Q.aM Q.nM Q.cM) := bB.cells 8
        go_simp
        refine hK.out undef _ trivial (fun _ => ?_)
        try simp only [Act.put, List.setIfInBounds_toArray, List.set_cons_zero, List.set_cons_succ]
        refine wpAnyH_done (by kernel_rfl) ?_ _
        have t8 : Turn (fun x => x = w2.heap.size) u31 (u31.setCell ⟨w2.heap.size, 8, none⟩ (.slice a (Q.nM - 1) c)) := (Turn.refl (fun x => x = w2.heap.size) u31).set (p := ⟨w2.heap.size, 8, none⟩) rfl _
        have b8 := bB.set 8 (.slice a (Q.nM - 1) c)
        have s8 := t8.size
        have hcut2 := (hcut.turnC t8 (by intro x h1 h2 h3 e; exact h3 (hc0 x (by omega) (by omega)))).up s8
        have p1 := (B1Q.out.new nu31).turn t8 (by omega)
        have nF := (NW.out.trans nu31).before t8 (by intro i hi e; omega)
        have sd := nu31.size
        clear fB c8 t8 hcut bB
        have c2 := b8.cells
        have c1 := p1.cells
        have f1 := p1.frees
        go_wp2
        all_goals refine bodyPost_ret (v := .agg #[.int .i64 (Q.drop k a c).sa, .int .i64 (Q.drop k a c).si, .int .i64 (Q.drop k a c).ho, .int .i64 (Q.drop k a c).nx, .slice (Q.drop k a c).a1 (Q.drop k a c).n1 (Q.drop k a c).c1, .slice (Q.drop k a c).a2 (Q.drop k a c).n2 (Q.drop k a c).c2, .slice (Q.drop k a c).aN (Q.drop k a c).nN (Q.drop k a c).cN, .slice (Q.drop k a c).aW (Q.drop k a c).nW (Q.drop k a c).cW, .slice (Q.drop k a c).aM (Q.drop k a c).nM (Q.drop k a c).cM, .slice (Q.drop k a c).aS (Q.drop k a c).nS (Q.drop k a c).cS]) (by simp [results, Tryz.results67, go_sem, c1, PrV.drop]) rfl ?_
        all_goals exact ⟨Q.drop k a c, rfl, EQ.out.drop k a none c 0, ⟨col', fin10 hcut2 (by omega) (by omega) (Nat.le_refl _) _ _ _ _ _ _ _ _ _ _⟩, new10 nF (by omega) _ _ _ _ _ _ _ _ _ _⟩
    case u22 =>
      have g8 : v0.cell? ⟨w2.heap.size, 8, none⟩ = some (.slice (some ⟨g, 0, none⟩) Q.nM Q.cM) := by
        have h1 := (BQ.out.new nv0).cells 8
        rw [h1, ← EA.out]; rfl
      go_simp
      refine hK.out _ _ trivial (fun _ => ?_)
      simp only [Act.put, List.setIfInBounds_toArray, List.set_cons_zero, List.set_cons_succ]
      clear g8
      refine' hw_take 10 (some 18) _ rfl rfl (by kernel_rfl) (by kernel_rfl) (by kernel_rfl) (fun _ _ _ h => h) (by rfl) trivial ?hy19 ?rest19
      case hy19 =>
        intro X hX
        go_simp
        try simp only [kw, kt, if_pos (And.intro k4 k3)]
        try rfl
      simp only [Act.put, List.setIfInBounds_toArray, List.set_cons_zero, List.set_cons_succ]
      refine hw_call 0 (some 8) rfl rfl (by kernel_rfl) (by rfl) (fun K hK => ?_)
      go_simp
      have nnu33 := (New.refl v0).alloc (.cells #[] 137)
      have r0 : (v0.alloc (.cells #[] 137)).ownsRow w3.heap.size 137 10 (.slice (some ⟨v0.heap.size, 0, none⟩) 0 0) 0 [] := ⟨rfl, .inr ⟨v0.heap.size, 0, _, rfl, nv0.size, heap_alloc_new _ _, Nat.le_refl _, by unfold maxLen; omega, by simp, by simp⟩⟩
      have nu33 := nv0.trans nnu33
      refine hK.out _ _ trivial (fun _ => ?_)
      simp only [Act.put, List.setIfInBounds_toArray, List.set_cons_zero, List.set_cons_succ]
      generalize v0.alloc (.cells #[] 137) = u33 at *
      clear nnu33
      refine hw_call 5 (some 13) rfl rfl (by kernel_rfl) (by rfl) (fun K hK => ?_)
      refine wp_apG _ (.tmp 8) (.tmp 12) rfl w3.heap.size 10 96 _ Tryz.underlying41 hi hz0 hz1 hz2 rfl (by omega) (by omega) _ 0 [] rfl r0 (some ⟨g, 0, none⟩) k Q.cM (cellsMq (Q.VM.take k)) rfl (by rw [cellsMq_len, List.length_take, LQ.out.lM]; omega) (cellsMq_one _) (by intro e; cases e) ?_ (by omega) nu33.size ?_
      · intro a ea' j u hu
        obtain rfl := (Option.some.inj ea').symm
        rw [Addr.add_lit, Nat.zero_add]
        exact (OQ1.out.new nu33).row_at j u (cells_takeQ _ _ j u hu)
      intro v5 u34 r5 hg5
      rw [Nat.zero_add, List.nil_append] at r5
      have nu34 := nu33.grow hg5 (fun q hq => (rng16 r0 q hq).1)
      refine hK.out _ _ trivial (fun _ => ?_)
      simp only [Act.put, List.setIfInBounds_toArray, List.set_cons_zero, List.set_cons_succ]
      clear hg5 r0
      refine hw_call 11 (some 19) rfl rfl (by kernel_rfl) (by rfl) (fun K hK => ?_)
      refine wp_apG _ (.tmp 13) (.tmp 18) rfl w3.heap.size 10 96 _ Tryz.underlying41 hi hz0 hz1 hz2 rfl (by omega) (by omega) v5 k (cellsMq (Q.VM.take k)) rfl r5 (if Q.cM = k + 1 then some ⟨g, 0, none⟩ else some ⟨g, (k + 1) * 10, none⟩) (Q.nM - (k + 1)) (Q.cM - (k + 1)) (cellsMq (Q.VM.drop (k + 1))) rfl (by rw [cellsMq_len, List.length_drop, LQ.out.lM]) (cellsMq_one _) (by intro e; split at e <;> cases e) ?_ (by omega) nu34.size ?_
      · intro a ea' j u hu
        have hj : ¬ Q.cM = k + 1 := by
          intro e
          have h1 := (List.getElem?_eq_some_iff.1 hu).1
          rw [cellsMq_len, List.length_drop, LQ.out.lM] at h1
          omega
        rw [if_neg hj] at ea'
        obtain rfl := (Option.some.inj ea').symm
        rw [Addr.add_lit]
        exact (OQ1.out.new nu34).row_at ((k + 1) * 10 + j) u (cells_dropQ _ _ j u hu)
      intro v6 u35 r6 hg6
      have nu35 := nu34.grow hg6 (fun q hq => (rng16 r5 q hq).1)
      rw [← cellsMq_app, show k + (Q.nM - (k + 1)) = Q.nM - 1 by omega] at r6
      obtain ⟨a, c, rfl, -, -⟩ := row9_form r6
      obtain ⟨col', hcut, hc0⟩ := OQ.out.cutC nu35 hsz hk LQ.out.lM r6
      have bB := BQ.out.new nu35
      have fB := bB.frees
      refine hK.out _ _ trivial (fun _ => ?_)
      simp only [Act.put, List.setIfInBounds_toArray, List.set_cons_zero, List.set_cons_succ]
      clear hg6 r5
      refine' hw_take 12 (some 20) _ rfl rfl (by kernel_rfl) (by kernel_rfl) (by kernel_rfl) (fun _ _ _ h => h) (by rfl) trivial ?hy20 ?rest20
      case hy20 =>
        intro X hX
        go_simp
        try rfl
      simp only [Act.put, List.setIfInBounds_toArray, List.set_cons_zero, List.set_cons_succ]
      refine hw_call 13 none rfl rfl (by kernel_rfl) (by rfl) (fun K hK => ?_)
      have c8 : u35.cell? ⟨w2.heap.size, 8, none⟩ = some (.slice Q.aM Q.nM Q.cM) := bB.cells 8
      go_simp
      refine hK.out undef _ trivial (fun _ => ?_)
      try simp only [Act.put, List.setIfInBounds_toArray, List.set_cons_zero, List.set_cons_succ]
      refine wpAnyH_done (by kernel_rfl) ?_ _
      have t8 : Turn (fun x => x = w2.heap.size) u35 (u35.setCell ⟨w2.heap.size, 8, none⟩ (.slice a (Q.nM - 1) c)) := (Turn.refl (fun x => x = w2.heap.size) u35).set (p := ⟨w2.heap.size, 8, none⟩) rfl _
      have b8 := bB.set 8 (.slice a (Q.nM - 1) c)
      have s8 := t8.size
      have hcut2 := (hcut.turnC t8 (by intro x h1 h2 h3 e; exact h3 (hc0 x (by omega) (by omega)))).up s8
      have p1 := (B1Q.out.new nu35).turn t8 (by omega)
      have nF := (NW.out.trans nu35).before t8 (by intro i hi e; omega)
      have sd := nu35.size
      clear fB c8 t8 hcut bB
      have c2 := b8.cells
      have c1 := p1.cells
      have f1 := p1.frees
      go_wp2
      all_goals refine bodyPost_ret (v := .agg #[.int .i64 (Q.drop k a c).sa, .int .i64 (Q.drop k a c).si, .int .i64 (Q.drop k a c).ho, .int .i64 (Q.drop k a c).nx, .slice (Q.drop k a c).a1 (Q.drop k a c).n1 (Q.drop k a c).c1, .slice (Q.drop k a c).a2 (Q.drop k a c).n2 (Q.drop k a c).c2, .slice (Q.drop k a c).aN (Q.drop k a c).nN (Q.drop k a c).cN, .slice (Q.drop k a c).aW (Q.drop k a c).nW (Q.drop k a c).cW, .slice (Q.drop k a c).aM (Q.drop k a c).nM (Q.drop k a c).cM, .slice (Q.drop k a c).aS (Q.drop k a c).nS (Q.drop k a c).cS]) (by simp [results, Tryz.results67, go_sem, c1, PrV.drop]) rfl ?_
      all_goals exact ⟨Q.drop k a c, rfl, EQ.out.drop k a none c 0, ⟨col', fin10 hcut2 (by omega) (by omega) (Nat.le_refl _) _ _ _ _ _ _ _ _ _ _⟩, new10 nF (by omega) _ _ _ _ _ _ _ _ _ _⟩
  case u3 =>
    have g8 : v0.cell? ⟨w2.heap.size, 8, none⟩ = some (.slice (some ⟨g, 0, none⟩) Q.nM Q.cM) := by
      have h1 := (BQ.out.new nv0).cells 8
      rw [h1, ← EA.out]; rfl
    go_simp
    refine hK.out _ _ trivial (fun _ => ?_)
    simp only [Act.put, List.setIfInBounds_toArray, List.set_cons_zero, List.set_cons_succ]
    clear g8
    refine' hw_take 10 (some 18) _ rfl rfl (by kernel_rfl) (by kernel_rfl) (by kernel_rfl) (fun _ _ _ h => h) (by rfl) trivial ?hy21 ?rest21
    case hy21 =>
      intro X hX
      go_simp
      try simp only [kw, kt, if_pos (And.intro k4 k3)]
      try rfl
    simp only [Act.put, List.setIfInBounds_toArray, List.set_cons_zero, List.set_cons_succ]
    refine wpAnyH_ready (rs := [0, 2]) (by kernel_rfl) (by simp) (hw_step 0 (some 8) rfl rfl (by rfl) (fun K hK => ?u37) (hw_step 2 (some 10) rfl rfl (by rfl) (fun K hK => ?u38) (by intro j hj; cases hj)))
    case u37 =>
      go_simp
      have nnu39 := (New.refl v0).alloc (.cells #[] 137)
      have r0 : (v0.alloc (.cells #[] 137)).ownsRow w3.heap.size 137 10 (.slice (some ⟨v0.heap.size, 0, none⟩) 0 0) 0 [] := ⟨rfl, .inr ⟨v0.heap.size, 0, _, rfl, nv0.size, heap_alloc_new _ _, Nat.le_refl _, by unfold maxLen; omega, by simp, by simp⟩⟩
      have nu39 := nv0.trans nnu39
      refine hK.out _ _ trivial (fun _ => ?_)
      simp only [Act.put, List.setIfInBounds_toArray, List.set_cons_zero, List.set_cons_succ]
      generalize v0.alloc (.cells #[] 137) = u39 at *
      clear nnu39
      refine hw_call 2 (some 10) rfl rfl (by kernel_rfl) (by rfl) (fun K hK => ?_)
      have g8 : u39.cell? ⟨w2.heap.size, 8, none⟩ = some (.slice (some ⟨g, 0, none⟩) Q.nM Q.cM) := by
        have h1 := (BQ.out.new nu39).cells 8
        rw [h1, ← EA.out]; rfl
      go_simp
      refine hK.out _ _ trivial (fun _ => ?_)
      simp only [Act.put, List.setIfInBounds_toArray, List.set_cons_zero, List.set_cons_succ]
      clear g8
      refine' hw_take 4 (some 12) _ rfl rfl (by kernel_rfl) (by kernel_rfl) (by kernel_rfl) (fun _ _ _ h => h) (by rfl) trivial ?hy22 ?rest22
      case hy22 =>
        intro X hX
        go_simp
        try rfl
      simp only [Act.put, List.setIfInBounds_toArray, List.set_cons_zero, List.set_cons_succ]
      refine hw_call 5 (some 13) rfl rfl (by kernel_rfl) (by rfl) (fun K hK => ?_)
      refine wp_apG _ (.tmp 8) (.tmp 12) rfl w3.heap.size 10 96 _ Tryz.underlying41 hi hz0 hz1 hz2 rfl (by omega) (by omega) _ 0 [] rfl r0 (some ⟨g, 0, none⟩) k Q.cM (cellsMq (Q.VM.take k)) rfl (by rw [cellsMq_len, List.length_take, LQ.out.lM]; omega) (cellsMq_one _) (by intro e; cases e) ?_ (by omega) nu39.size ?_
      · intro a ea' j u hu
        obtain rfl := (Option.some.inj ea').symm
        rw [Addr.add_lit, Nat.zero_add]
        exact (OQ1.out.new nu39).row_at j u (cells_takeQ _ _ j u hu)
      intro v5 u41 r5 hg5
      rw [Nat.zero_add, List.nil_append] at r5
      have nu41 := nu39.grow hg5 (fun q hq => (rng16 r0 q hq).1)
      refine hK.out _ _ trivial (fun _ => ?_)
      simp only [Act.put, List.setIfInBounds_toArray, List.set_cons_zero, List.set_cons_succ]
      clear hg5 r0
      refine hw_call 11 (some 19) rfl rfl (by kernel_rfl) (by rfl) (fun K hK => ?_)
      refine wp_apG _ (.tmp 13) (.tmp 18) rfl w3.heap.size 10 96 _ Tryz.underlying41 hi hz0 hz1 hz2 rfl (by omega) (by omega) v5 k (cellsMq (Q.VM.take k)) rfl r5 (if Q.cM = k + 1 then some ⟨g, 0, none⟩ else some ⟨g, (k + 1) * 10, none⟩) (Q.nM - (k + 1)) (Q.cM - (k + 1)) (cellsMq (Q.VM.drop (k + 1))) rfl (by rw [cellsMq_len, List.length_drop, LQ.out.lM]) (cellsMq_one _) (by intro e; split at e <;> cases e) ?_ (by omega) nu41.size ?_
      · intro a ea' j u hu
        have hj : ¬ Q.cM = k + 1 := by
          intro e
          have h1 := (List.getElem?_eq_some_iff.1 hu).1
          rw [cellsMq_len, List.length_drop, LQ.out.lM] at h1
          omega
        rw [if_neg hj] at ea'
        obtain rfl := (Option.some.inj ea').symm
        rw [Addr.add_lit]
        exact (OQ1.out.new nu41).row_at ((k + 1) * 10 + j) u (cells_dropQ _ _ j u hu)
      intro v6 u42 r6 hg6
      have nu42 := nu41.grow hg6 (fun q hq => (rng16 r5 q hq).1)
      rw [← cellsMq_app, show k + (Q.nM - (k + 1)) = Q.nM - 1 by omega] at r6
      obtain ⟨a, c, rfl, -, -⟩ := row9_form r6
      obtain ⟨col', hcut, hc0⟩ := OQ.out.cutC nu42 hsz hk LQ.out.lM r6
      have bB := BQ.out.new nu42
      have fB := bB.frees
      refine hK.out _ _ trivial (fun _ => ?_)
      simp only [Act.put, List.setIfInBounds_toArray, List.set_cons_zero, List.set_cons_succ]
      clear hg6 r5
      refine' hw_take 12 (some 20) _ rfl rfl (by kernel_rfl) (by kernel_rfl) (by kernel_rfl) (fun _ _ _ h => h) (by rfl) trivial ?hy23 ?rest23
      case hy23 =>
        intro X hX
        go_simp
        try rfl
      simp only [Act.put, List.setIfInBounds_toArray, List.set_cons_zero, List.set_cons_succ]
      refine hw_call 13 none rfl rfl (by kernel_rfl) (by rfl) (fun K hK => ?_)
      have c8 : u42.cell? ⟨w2.heap.size, 8, none⟩ = some (.slice Q.aM Q.nM Q.cM) := bB.cells 8
      go_simp
      refine hK.out undef _ trivial (fun _ => ?_)
      try simp only [Act.put, List.setIfInBounds_toArray, List.set_cons_zero, List.set_cons_succ]
      refine wpAnyH_done (by kernel_rfl) ?_ _
      have t8 : Turn (fun x => x = w2.heap.size) u42 (u42.setCell ⟨w2.heap.size, 8, none⟩ (.slice a (Q.nM - 1) c)) := (Turn.refl (fun x => x = w2.heap.size) u42).set (p := ⟨w2.heap.size, 8, none⟩) rfl _
      have b8 := bB.set 8 (.slice a (Q.nM - 1) c)
      have s8 := t8.size
      have hcut2 := (hcut.turnC t8 (by intro x h1 h2 h3 e; exact h3 (hc0 x (by omega) (by omega)))).up s8
      have p1 := (B1Q.out.new nu42).turn t8 (by omega)
      have nF := (NW.out.trans nu42).before t8 (by intro i hi e; omega)
      have sd := nu42.size
      clear fB c8 t8 hcut bB
      have c2 := b8.cells
      have c1 := p1.cells
      have f1 := p1.frees
      go_wp2
      all_goals refine bodyPost_ret (v := .agg #[.int .i64 (Q.drop k a c).sa, .int .i64 (Q.drop k a c).si, .int .i64 (Q.drop k a c).ho, .int .i64 (Q.drop k a c).nx, .slice (Q.drop k a c).a1 (Q.drop k a c).n1 (Q.drop k a c).c1, .slice (Q.drop k a c).a2 (Q.drop k a c).n2 (Q.drop k a c).c2, .slice (Q.drop k a c).aN (Q.drop k a c).nN (Q.drop k a c).cN, .slice (Q.drop k a c).aW (Q.drop k a c).nW (Q.drop k a c).cW, .slice (Q.drop k a c).aM (Q.drop k a c).nM (Q.drop k a c).cM, .slice (Q.drop k a c).aS (Q.drop k a c).nS (Q.drop k a c).cS]) (by simp [results, Tryz.results67, go_sem, c1, PrV.drop]) rfl ?_
      all_goals exact ⟨Q.drop k a c, rfl, EQ.out.drop k a none c 0, ⟨col', fin10 hcut2 (by omega) (by omega) (Nat.le_refl _) _ _ _ _ _ _ _ _ _ _⟩, new10 nF (by omega) _ _ _ _ _ _ _ _ _ _⟩
    case u38 =>
      have g8 : v0.cell? ⟨w2.heap.size, 8, none⟩ = some (.slice (some ⟨g, 0, none⟩) Q.nM Q.cM) := by
        have h1 := (BQ.out.new nv0).cells 8
        rw [h1, ← EA.out]; rfl
      go_simp
      refine hK.out _ _ trivial (fun _ => ?_)
      simp only [Act.put, List.setIfInBounds_toArray, List.set_cons_zero, List.set_cons_succ]
      clear g8
      refine' hw_take 4 (some 12) _ rfl rfl (by kernel_rfl) (by kernel_rfl) (by kernel_rfl) (fun _ _ _ h => h) (by rfl) trivial ?hy24 ?rest24
      case hy24 =>
        intro X hX
        go_simp
        try rfl
      simp only [Act.put, List.setIfInBounds_toArray, List.set_cons_zero, List.set_cons_succ]
      refine hw_call 0 (some 8) rfl rfl (by kernel_rfl) (by rfl) (fun K hK => ?_)
      go_simp
      have nnu44 := (New.refl v0).alloc (.cells #[] 137)
      have r0 : (v0.alloc (.cells #[] 137)).ownsRow w3.heap.size 137 10 (.slice (some ⟨v0.heap.size, 0, none⟩) 0 0) 0 [] := ⟨rfl, .inr ⟨v0.heap.size, 0, _, rfl, nv0.size, heap_alloc_new _ _, Nat.le_refl _, by unfold maxLen; omega, by simp, by simp⟩⟩
      have nu44 := nv0.trans nnu44
      refine hK.out _ _ trivial (fun _ => ?_)
      simp only [Act.put, List.setIfInBounds_toArray, List.set_cons_zero, List.set_cons_succ]
      generalize v0.alloc (.cells #[] 137) = u44 at *
      clear nnu44
      refine hw_call 5 (some 13) rfl rfl (by kernel_rfl) (by rfl) (fun K hK => ?_)
      refine wp_apG _ (.tmp 8) (.tmp 12) rfl w3.heap.size 10 96 _ Tryz.underlying41 hi hz0 hz1 hz2 rfl (by omega) (by omega) _ 0 [] rfl r0 (some ⟨g, 0, none⟩) k Q.cM (cellsMq (Q.VM.take k)) rfl (by rw [cellsMq_len, List.length_take, LQ.out.lM]; omega) (cellsMq_one _) (by intro e; cases e) ?_ (by omega) nu44.size ?_
      · intro a ea' j u hu
        obtain rfl := (Option.some.inj ea').symm
        rw [Addr.add_lit, Nat.zero_add]
        exact (OQ1.out.new nu44).row_at j u (cells_takeQ _ _ j u hu)
      intro v5 u45 r5 hg5
      rw [Nat.zero_add, List.nil_append] at r5
      have nu45 := nu44.grow hg5 (fun q hq => (rng16 r0 q hq).1)
      refine hK.out _ _ trivial (fun _ => ?_)
      simp only [Act.put, List.setIfInBounds_toArray, List.set_cons_zero, List.set_cons_succ]
      clear hg5 r0
      refine hw_call 11 (some 19) rfl rfl (by kernel_rfl) (by rfl) (fun K hK => ?_)
      refine wp_apG _ (.tmp 13) (.tmp 18) rfl w3.heap.size 10 96 _ Tryz.underlying41 hi hz0 hz1 hz2 rfl (by omega) (by omega) v5 k (cellsMq (Q.VM.take k)) rfl r5 (if Q.cM = k + 1 then some ⟨g, 0, none⟩ else some ⟨g, (k + 1) * 10, none⟩) (Q.nM - (k + 1)) (Q.cM - (k + 1)) (cellsMq (Q.VM.drop (k + 1))) rfl (by rw [cellsMq_len, List.length_drop, LQ.out.lM]) (cellsMq_one _) (by intro e; split at e <;> cases e) ?_ (by omega) nu45.size ?_
      · intro a ea' j u hu
        have hj : ¬ Q.cM = k + 1 := by
          intro e
          have h1 := (List.getElem?_eq_some_iff.1 hu).1
          rw [cellsMq_len, List.length_drop, LQ.out.lM] at h1
          omega
        rw [if_neg hj] at ea'
        obtain rfl := (Option.some.inj ea').symm
        rw [Addr.add_lit]
        exact (OQ1.out.new nu45).row_at ((k + 1) * 10 + j) u (cells_dropQ _ _ j u hu)
      intro v6 u46 r6 hg6
      have nu46 := nu45.grow hg6 (fun q hq => (rng16 r5 q hq).1)
      rw [← cellsMq_app, show k + (Q.nM - (k + 1)) = Q.nM - 1 by omega] at r6
      obtain ⟨a, c, rfl, -, -⟩ := row9_form r6
      obtain ⟨col', hcut, hc0⟩ := OQ.out.cutC nu46 hsz hk LQ.out.lM r6
      have bB := BQ.out.new nu46
      have fB := bB.frees
      refine hK.out _ _ trivial (fun _ => ?_)
      simp only [Act.put, List.setIfInBounds_toArray, List.set_cons_zero, List.set_cons_succ]
      clear hg6 r5
      refine' hw_take 12 (some 20) _ rfl rfl (by kernel_rfl) (by kernel_rfl) (by kernel_rfl) (fun _ _ _ h => h) (by rfl) trivial ?hy25 ?rest25
      case hy25 =>
        intro X hX
        go_simp
        try rfl
      simp only [Act.put, List.setIfInBounds_toArray, List.set_cons_zero, List.set_cons_succ]
      refine hw_call 13 none rfl rfl (by kernel_rfl) (by rfl) (fun K hK => ?_)
      have c8 : u46.cell? ⟨w2.heap.size, 8, none⟩ = some (.slice Q.aM Q.nM Q.cM) := bB.cells 8
      go_simp
      refine hK.out undef _ trivial (fun _ => ?_)
      try simp only [Act.put, List.setIfInBounds_toArray, List.set_cons_zero, List.set_cons_succ]
      refine wpAnyH_done (by kernel_rfl) ?_ _
      have t8 : Turn (fun x => x = w2.heap.size) u46 (u46.setCell ⟨w2.heap.size, 8, none⟩ (.slice a (Q.nM - 1) c)) := (Turn.refl (fun x => x = w2.heap.size) u46).set (p := ⟨w2.heap.size, 8, none⟩) rfl _
      have b8 := bB.set 8 (.slice a (Q.nM - 1) c)
      have s8 := t8.size
      have hcut2 := (hcut.turnC t8 (by intro x h1 h2 h3 e; exact h3 (hc0 x (by omega) (by omega)))).up s8
      have p1 := (B1Q.out.new nu46).turn t8 (by omega)
      have nF := (NW.out.trans nu46).before t8 (by intro i hi e; omega)
      have sd := nu46.size
      clear fB c8 t8 hcut bB
      have c2 := b8.cells
      have c1 := p1.cells
      have f1 := p1.frees
      go_wp2
      all_goals refine bodyPost_ret (v := .agg #[.int .i64 (Q.drop k a c).sa, .int .i64 (Q.drop k a c).si, .int .i64 (Q.drop k a c).ho, .int .i64 (Q.drop k a c).nx, .slice (Q.drop k a c).a1 (Q.drop k a c).n1 (Q.drop k a c).c1, .slice (Q.drop k a c).a2 (Q.drop k a c).n2 (Q.drop k a c).c2, .slice (Q.drop k a c).aN (Q.drop k a c).nN (Q.drop k a c).cN, .slice (Q.drop k a c).aW (Q.drop k a c).nW (Q.drop k a c).cW, .slice (Q.drop k a c).aM (Q.drop k a c).nM (Q.drop k a c).cM, .slice (Q.drop k a c).aS (Q.drop k a c).nS (Q.drop k a c).cS]) (by simp [results, Tryz.results67, go_sem, c1, PrV.drop]) rfl ?_
      all_goals exact ⟨Q.drop k a c, rfl, EQ.out.drop k a none c 0, ⟨col', fin10 hcut2 (by omega) (by omega) (Nat.le_refl _) _ _ _ _ _ _ _ _ _ _⟩, new10 nF (by omega) _ _ _ _ _ _ _ _ _ _⟩

end Go.Proofs.YtebkdaddndlmoaaGreat
