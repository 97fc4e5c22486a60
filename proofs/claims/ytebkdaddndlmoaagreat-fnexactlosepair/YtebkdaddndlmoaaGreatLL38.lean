/- What is proved here: what the model's l14At, l14Bad and LosePair answer, for every pair of at most 1048576 things each. -/
import Derived.Test.YtebkdaddndlmoaaGreatLL37
namespace Go.Proofs.YtebkdaddndlmoaaGreat
open Go.ChangeShapes Go.WideShapes Go.ChangeAt Go.RowKit Go.Deep Go.Sort
set_option linter.unusedVariables false
set_option linter.unusedSimpArgs false
set_option maxRecDepth 100000


def atF (P : PrV) (az : Int) : Int := if prF P = 0 then (if 0 ≤ az ∧ az < P.nM then 0 else 4) else prF P
set_option maxHeartbeats 3200000 in
theorem l14At16 (B : Nat) (P : PrV) (az : Int) (w : World) (hb : Blk w B 44 #[.int .i64 P.sa, .int .i64 P.si, .int .i64 P.ho, .int .i64 P.nx, .slice P.a1 P.n1 P.c1, .slice P.a2 P.n2 P.c2, .slice P.aN P.nN P.cN, .slice P.aW P.nW P.cW, .slice P.aM P.nM P.cM, .slice P.aS P.nS P.cS]) (hp : PAt w P.a1 P.a2 P.aN P.aW P.aM P.aS P.r1 P.r2 P.VN P.VW P.VM P.VS) (hl : PrL P) :
    Calls Tryz.prog 66 #[.pointer (some ⟨B, 0, none⟩), .int .i64 az] w fun e w' => e = .returned (.int .i64 (atF P az)) ∧ New w w' := by
  have HB : Hid (Blk w B 44 #[.int .i64 P.sa, .int .i64 P.si, .int .i64 P.ho, .int .i64 P.nx, .slice P.a1 P.n1 P.c1, .slice P.a2 P.n2 P.c2, .slice P.aN P.nN P.cN, .slice P.aW P.nW P.cW, .slice P.aM P.nM P.cM, .slice P.aS P.nS P.cS]) := hb
  have HH : Hid (Calls Tryz.prog 87 #[.pointer (some ⟨B, 0, none⟩)] w fun e w' => e = .returned (.int .i64 (prF P)) ∧ New w w') := specPaFp P.sa P.si P.ho P.nx P.a1 P.a2 P.aN P.aW P.aM P.aS P.n1 P.c1 P.n2 P.c2 P.nN P.cN P.nW P.cW P.nM P.cM P.nS P.cS P.r1 P.r2 P.VN P.VW P.VM P.VS B w hb hp hl.l1 hl.l2 hl.lN hl.lW hl.lM hl.lS hl.m1 hl.m2 hl.mN hl.mW hl.mM hl.mS (prF P) rfl
  have hm := hl.mM
  clear hb hp hl
  go_enter Tryz.func66, Tryz.ntmps66
  go_wp2_with fail
  refine HH.out.mono ?_
  rintro e w1 ⟨rfl, hn1⟩
  have c8 : w1.cell? ⟨B, 8, none⟩ = some (.slice P.aM P.nM P.cM) := (HB.out.new hn1).cells 8
  have hwr : IntKind.i64.wrap ((P.nM : Int) - 1) = (P.nM : Int) - 1 := by rw [IntKind.wrap_i64]; omega
  by_cases hv : prF P = 0
  · rw [hv]
    by_cases hz : 0 ≤ az ∧ az < (P.nM : Int)
    · have HZ : Hid (0 ≤ az ∧ az < (P.nM : Int)) := hz
      clear hz
      go_wp2_with fail
      refine (in_yes az 0 _ _ (by have := HZ.out; first | omega | (rw [hwr]; omega))).mono ?_
      rintro e w' ⟨rfl, hww⟩
      obtain rfl := hww
      go_wp2
      go_ret
      exact ⟨by unfold atF; rw [if_pos hv, if_pos HZ.out]; rfl, hn1⟩
    · have HZ : Hid (¬ (0 ≤ az ∧ az < (P.nM : Int))) := hz
      clear hz
      go_wp2_with fail
      refine (in_no az 0 _ _ (by have := HZ.out; first | omega | (rw [hwr]; omega))).mono ?_
      rintro e w' ⟨rfl, hww⟩
      obtain rfl := hww
      go_wp2
      go_ret
      exact ⟨by unfold atF; rw [if_pos hv, if_neg HZ.out]; rfl, hn1⟩
  · go_wp2
    go_ret
    exact ⟨by unfold atF; rw [if_neg hv]; rfl, hn1⟩

set_option maxHeartbeats 6400000 in
theorem specLose16 (P : PrV) (az : Int) (b0 b1 : Nat) (col : Nat → Nat) (w : World) (ho : PrOw w b0 b1 col P) (hl : PrL P) (hN : ∃ g, P.aN = some ⟨g, 0, none⟩) (hc : P.cN = P.nN) (hW : SomW P.VW) (hM : SomM P.VM) (h1 : ∃ g, P.a1 = some ⟨g, 0, none⟩) (h2 : ∃ g, P.a2 = some ⟨g, 0, none⟩) :
    Calls Tryz.prog 22 #[.agg #[.int .i64 P.sa, .int .i64 P.si, .int .i64 P.ho, .int .i64 P.nx, .slice P.a1 P.n1 P.c1, .slice P.a2 P.n2 P.c2, .slice P.aN P.nN P.cN, .slice P.aW P.nW P.cW, .slice P.aM P.nM P.cM, .slice P.aS P.nS P.cS], .int .i64 az] w fun e w' => ∃ z R col', e = .returned (.agg #[.int .i64 z, .slice none 0 0, .int .i64 R.sa, .int .i64 R.si, .int .i64 R.ho, .int .i64 R.nx, .slice R.a1 R.n1 R.c1, .slice R.a2 R.n2 R.c2, .slice R.aN R.nN R.cN, .slice R.aW R.nW R.cW, .slice R.aM R.nM R.cM, .slice R.aS R.nS R.cS]) ∧ LoR P az z R ∧ PrOw w' w.heap.size w'.heap.size col' R ∧ New w w' := by
  have hw : New w ((w.alloc (.cells #[.int .i64 P.sa, .int .i64 P.si, .int .i64 P.ho, .int .i64 P.nx, .slice P.a1 P.n1 P.c1, .slice P.a2 P.n2 P.c2, .slice P.aN P.nN P.cN, .slice P.aW P.nW P.cW, .slice P.aM P.nM P.cM, .slice P.aS P.nS P.cS] 44)).alloc (.cells #[.int .i64 0, .slice none 0 0, .int .i64 0, .int .i64 0, .int .i64 0, .int .i64 0, .slice none 0 0, .slice none 0 0, .slice none 0 0, .slice none 0 0, .slice none 0 0, .slice none 0 0] 46)) := ((New.refl w).alloc _).alloc _
  have b0' : Blk ((w.alloc (.cells #[.int .i64 P.sa, .int .i64 P.si, .int .i64 P.ho, .int .i64 P.nx, .slice P.a1 P.n1 P.c1, .slice P.a2 P.n2 P.c2, .slice P.aN P.nN P.cN, .slice P.aW P.nW P.cW, .slice P.aM P.nM P.cM, .slice P.aS P.nS P.cS] 44)).alloc (.cells #[.int .i64 0, .slice none 0 0, .int .i64 0, .int .i64 0, .int .i64 0, .int .i64 0, .slice none 0 0, .slice none 0 0, .slice none 0 0, .slice none 0 0, .slice none 0 0, .slice none 0 0] 46)) w.heap.size 44 #[.int .i64 P.sa, .int .i64 P.si, .int .i64 P.ho, .int .i64 P.nx, .slice P.a1 P.n1 P.c1, .slice P.a2 P.n2 P.c2, .slice P.aN P.nN P.cN, .slice P.aW P.nW P.cW, .slice P.aM P.nM P.cM, .slice P.aS P.nS P.cS] := (Blk.mk _ _ _ _ rfl).alloc _
  have b1' : Blk ((w.alloc (.cells #[.int .i64 P.sa, .int .i64 P.si, .int .i64 P.ho, .int .i64 P.nx, .slice P.a1 P.n1 P.c1, .slice P.a2 P.n2 P.c2, .slice P.aN P.nN P.cN, .slice P.aW P.nW P.cW, .slice P.aM P.nM P.cM, .slice P.aS P.nS P.cS] 44)).alloc (.cells #[.int .i64 0, .slice none 0 0, .int .i64 0, .int .i64 0, .int .i64 0, .int .i64 0, .slice none 0 0, .slice none 0 0, .slice none 0 0, .slice none 0 0, .slice none 0 0, .slice none 0 0] 46)) (w.heap.size + 1) 46 #[.int .i64 0, .slice none 0 0, .int .i64 0, .int .i64 0, .int .i64 0, .int .i64 0, .slice none 0 0, .slice none 0 0, .slice none 0 0, .slice none 0 0, .slice none 0 0, .slice none 0 0] := Blk.mk _ _ _ _ (by simp)
  have s0 : Hid (((w.alloc (.cells #[.int .i64 P.sa, .int .i64 P.si, .int .i64 P.ho, .int .i64 P.nx, .slice P.a1 P.n1 P.c1, .slice P.a2 P.n2 P.c2, .slice P.aN P.nN P.cN, .slice P.aW P.nW P.cW, .slice P.aM P.nM P.cM, .slice P.aS P.nS P.cS] 44)).alloc (.cells #[.int .i64 0, .slice none 0 0, .int .i64 0, .int .i64 0, .int .i64 0, .int .i64 0, .slice none 0 0, .slice none 0 0, .slice none 0 0, .slice none 0 0, .slice none 0 0, .slice none 0 0] 46)).heap.size = w.heap.size + 1 + 1) := by unfold Hid; simp
  have HA : Hid (∀ X, New w X → Blk X w.heap.size 44 #[.int .i64 P.sa, .int .i64 P.si, .int .i64 P.ho, .int .i64 P.nx, .slice P.a1 P.n1 P.c1, .slice P.a2 P.n2 P.c2, .slice P.aN P.nN P.cN, .slice P.aW P.nW P.cW, .slice P.aM P.nM P.cM, .slice P.aS P.nS P.cS] → Calls Tryz.prog 66 #[.pointer (some ⟨w.heap.size, 0, none⟩), .int .i64 az] X fun e w' => e = .returned (.int .i64 (atF P az)) ∧ New X w') := fun X hX hb => l14At16 w.heap.size P az X hb ((ho.pat hl hN hc hW).new hX) hl
  have HWo : Hid (∀ X, New w X → ∀ k : Nat, k < P.nM → Calls Tryz.prog 67 #[.agg #[.int .i64 P.sa, .int .i64 P.si, .int .i64 P.ho, .int .i64 P.nx, .slice P.a1 P.n1 P.c1, .slice P.a2 P.n2 P.c2, .slice P.aN P.nN P.cN, .slice P.aW P.nW P.cW, .slice P.aM P.nM P.cM, .slice P.aS P.nS P.cS], .int .i64 k] X fun e w' => ∃ R col', e = .returned (.agg #[.int .i64 R.sa, .int .i64 R.si, .int .i64 R.ho, .int .i64 R.nx, .slice R.a1 R.n1 R.c1, .slice R.a2 R.n2 R.c2, .slice R.aN R.nN R.cN, .slice R.aW R.nW R.cW, .slice R.aM R.nM R.cM, .slice R.aS R.nS R.cS]) ∧ PrE R (P.drop k none 0) ∧ PrOw w' X.heap.size w'.heap.size col' R ∧ New X w') := fun X hX k hk => l14Wo P k b0 b1 col X (ho.new hX) hl hW hM h1 h2 hk
  have hvA : Hid (atF P az = if prF P = 0 then (if 0 ≤ az ∧ az < P.nM then 0 else 4) else prF P) := rfl
  clear ho hl hN hc hW hM h1 h2
  have c0 := b0'.cells
  go_enter Tryz.func22, Tryz.ntmps22
  go_wp2_with fail
  refine (HA.out _ hw b0').mono ?_
  rintro e w1 ⟨rfl, hn1⟩
  have S0 := s0.out
  have n1 := hw.trans hn1
  have z1 := hn1.size
  have p0 := b0'.new hn1
  have p1 := b1'.new hn1
  clear c0 b0' b1' hw hn1
  have c0 := p0.cells
  by_cases hv : atF P az = 0
  · have hk : prF P = 0 ∧ (0 ≤ az ∧ az < P.nM) := by
      have h1 := hvA.out
      rw [hv] at h1
      by_cases hp : prF P = 0
      · rw [if_pos hp] at h1
        by_cases hz : 0 ≤ az ∧ az < (P.nM : Int)
        · exact ⟨hp, hz⟩
        · rw [if_neg hz] at h1; omega
      · rw [if_neg hp] at h1; exact absurd h1.symm hp
    obtain ⟨k, rfl⟩ : ∃ k : Nat, az = k := ⟨az.toNat, by omega⟩
    have HK : Hid (prF P = 0 ∧ (0 ≤ (k : Int) ∧ (k : Int) < P.nM)) := hk
    clear hk
    rw [hv]
    go_wp2_with fail
    refine (HWo.out _ n1 k (by have := HK.out.2; omega)).mono ?_
    rintro e w2 ⟨R, col', rfl, eR, oR, hn2⟩
    have n2 := n1.trans hn2
    have z2 := hn2.size
    have r1 := p1.new hn2
    clear c0
    have c1 := r1.cells
    have f1 := r1.frees
    have ER : Hid (PrE R (P.drop k none 0)) := eR
    clear eR
    go_wp2
    refine bodyPost_ret (v := .agg #[.int .i64 0, .slice none 0 0, .int .i64 R.sa, .int .i64 R.si, .int .i64 R.ho, .int .i64 R.nx, .slice R.a1 R.n1 R.c1, .slice R.a2 R.n2 R.c2, .slice R.aN R.nN R.cN, .slice R.aW R.nW R.cW, .slice R.aM R.nM R.cM, .slice R.aS R.nS R.cS]) (by simp [results, Tryz.results22, go_sem, c1]) rfl ?_
    exact ⟨0, R, col', rfl, .inr (.inr ⟨HK.out.1, HK.out.2, rfl, ER.out⟩), fin12 oR (by omega) (by omega) (Nat.le_refl _) _ _ _ _ _ _ _ _ _ _ _ _ , new12 n2 (by omega) _ _ _ _ _ _ _ _ _ _ _ _ ⟩
  · have HV : Hid (¬ atF P az = 0) := hv
    have hvb : (atF P az != 0) = true := by simp [hv]
    generalize hA : atF P az = zA at *
    clear c0
    go_wp2_with fail
    refine (l14Bad16 zA _).mono ?_
    rintro e w2 ⟨rfl, hn2⟩
    have n2 := n1.trans hn2
    have z2 := hn2.size
    have r1 := p1.new hn2
    have c1 := r1.cells
    have f1 := r1.frees
    go_wp2
    refine bodyPost_ret (v := .agg #[.int .i64 zA, .slice none 0 0, .int .i64 zPr.sa, .int .i64 zPr.si, .int .i64 zPr.ho, .int .i64 zPr.nx, .slice zPr.a1 zPr.n1 zPr.c1, .slice zPr.a2 zPr.n2 zPr.c2, .slice zPr.aN zPr.nN zPr.cN, .slice zPr.aW zPr.nW zPr.cW, .slice zPr.aM zPr.nM zPr.cM, .slice zPr.aS zPr.nS zPr.cS]) (by simp [results, Tryz.results22, go_sem, c1, zPr]) rfl ?_
    refine ⟨zA, zPr, col, rfl, ?_, zPr_ow _ _ _ _, new12 n2 (by omega) _ _ _ _ _ _ _ _ _ _ _ _ ⟩
    have h1 := hvA.out
    by_cases hp : prF P = 0
    · rw [if_pos hp] at h1
      by_cases hz : 0 ≤ az ∧ az < (P.nM : Int)
      · rw [if_pos hz] at h1; exact absurd h1 hv
      · rw [if_neg hz] at h1; exact .inr (.inl ⟨hp, hz, h1, rfl⟩)
    · rw [if_neg hp] at h1; exact .inl ⟨hp, h1, rfl⟩

end Go.Proofs.YtebkdaddndlmoaaGreat
