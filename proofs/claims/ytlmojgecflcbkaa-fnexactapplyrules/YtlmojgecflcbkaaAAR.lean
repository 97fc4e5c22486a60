/- What is proved here: for every list of rules, number, prefix and attributes the law on ApplyRules returns true, and they read as they did. No condition. -/
import Derived.Test.YtlmojgecflcbkaaR6Open
import Derived.Test.YtlmojgecflcbkaaR6ApM
import Derived.Deep.RegionHeld3
import Derived.Deep.CutRange
namespace Go.Proofs.Ytlmojgecflcbkaa
open Go.ChangeShapes Go.WideShapes Go.ChangeAt Go.RowKit Go.Sort
set_option linter.unusedVariables false
set_option linter.unusedSimpArgs false

set_option maxHeartbeats 12800000 in
theorem aar_walk (y : Option Addr) (rn rk : Nat) (rs : List Ru) (z p q : Int) (o nx md lo : Int) (x : Option Addr) (n c : Nat) (xs : List Int) (w : World) (hr : RsAt w y rs) (hrn : rs.length = rn) (hrM : rn ≤ maxLen) (h : NsAt w x xs) (hn : xs.length = n) (hM : n ≤ maxLen) :
    Calls Try.prog 6 #[.slice y rn rk, .int .i64 z, .agg #[.int .i64 p, .int .i64 q], .agg #[.int .i64 o, .slice x n c, .int .i64 nx, .int .i64 md, .int .i64 lo]] w fun e w' => e = .returned (.bool true) ∧ New w w' := by
  have N0 : New w ((w.alloc (.cells #[.int .i64 p, .int .i64 q] 23)).alloc (.cells #[.int .i64 o, .slice x n c, .int .i64 nx, .int .i64 md, .int .i64 lo] 41)) := ((New.refl w).alloc _).alloc _
  by_cases hb1 : 1048576 < rn
  case pos =>
    go_enter Try.func6, Try.ntmps6
    go_wp2_with fail
    refine (szRs_big y rn rk 1048576 _ (Nat.le_refl _) hrM hb1).mono ?_
    rintro e w1 ⟨rfl, rfl⟩
    go_wp2
    go_ret
    exact ⟨rfl, N0⟩
  have hrm : rn ≤ 1048576 := by omega
  have eL : ((1048576 : Nat) : Int) - (rn : Int) = ((1048576 - rn : Nat) : Int) := by omega
  have hL : 1048576 - rn ≤ 1048576 := by omega
  generalize 1048576 - rn = L at *
  by_cases hb2 : L < n
  case pos =>
    go_enter Try.func6, Try.ntmps6
    go_wp2_with fail
    refine (szRs_ok y rn rk 1048576 _ (Nat.le_refl _) hrm).mono ?_
    rintro e w1 ⟨rfl, rfl⟩
    rw [eL]
    go_wp2_with fail
    refine (szAt_big o nx md lo x n c L _ hL hM hb2).mono ?_
    rintro e w1 ⟨rfl, hn1⟩
    go_wp2
    go_ret
    exact ⟨rfl, N0.trans hn1⟩
  have hm' : n ≤ 1048576 := by omega
  have hnL : n ≤ L := by omega
  have hbd : Hid (∀ z ∈ xs, In6 z) := h.bd
  have HN : Hid (xs.length = n) := hn
  have HR : Hid (rs.length = rn) := hrn
  clear hM hn hrn hrM hb1 hb2
  have bP0 : Blk ((w.alloc (.cells #[.int .i64 p, .int .i64 q] 23)).alloc (.cells #[.int .i64 o, .slice x n c, .int .i64 nx, .int .i64 md, .int .i64 lo] 41)) w.heap.size 23 #[.int .i64 p, .int .i64 q] := (Blk.mk _ _ _ _ rfl).alloc _
  have bA0 : Blk ((w.alloc (.cells #[.int .i64 p, .int .i64 q] 23)).alloc (.cells #[.int .i64 o, .slice x n c, .int .i64 nx, .int .i64 md, .int .i64 lo] 41)) (w.heap.size + 1) 41 #[.int .i64 o, .slice x n c, .int .i64 nx, .int .i64 md, .int .i64 lo] := Blk.mk _ _ _ _ (by simp)
  have hin : Hid (∀ u ∈ (apA rs z p q o xs nx md lo).ns, In6 u) := apA_in hbd.out
  have hlm : Hid ((apA rs z p q o xs nx md lo).ns.length ≤ 9) := apA_len
  have hS : Hid (∀ W gl g, RsAt W (some ⟨gl, 0, none⟩) rs → NsAt W (some ⟨g, 0, none⟩) xs → Calls Try.prog 23 #[.slice (some ⟨gl, 0, none⟩) rn rn, .int .i64 z, .agg #[.int .i64 p, .int .i64 q], .agg #[.int .i64 o, .slice (some ⟨g, 0, none⟩) n n, .int .i64 nx, .int .i64 md, .int .i64 lo]] W (AAns W (apA rs z p q o xs nx md lo))) := fun W gl g h1 h2 => specAR _ rn rn rs z p q o nx md lo _ n n xs W h1 HR.out hrm h2 HN.out hm' (by intro e; cases e)
  have hI : Hid (∀ W gl g, RsAt W (some ⟨gl, 0, none⟩) rs → NsAt W (some ⟨g, 0, none⟩) xs → Calls Try.prog 24 #[.slice (some ⟨gl, 0, none⟩) rn rn, .int .i64 z, .agg #[.int .i64 p, .int .i64 q], .agg #[.int .i64 o, .slice (some ⟨g, 0, none⟩) n n, .int .i64 nx, .int .i64 md, .int .i64 lo]] W (AAns W (apA rs z p q o xs nx md lo))) := fun W gl g h1 h2 => implAR _ rn rn rs z p q o nx md lo _ n n xs W h1 HR.out hrm h2 HN.out hm' (by intro e; cases e)
  generalize apA rs z p q o xs nx md lo = r at hS hI hin hlm
  obtain ⟨rc, rr, ro, ns, rx, rd, rl⟩ := r
  obtain ⟨m, HM⟩ : ∃ m, Hid (ns.length = m) := ⟨_, rfl⟩
  have hm7 : m ≤ 9 := by rw [← HM.out]; exact hlm.out
  have hz : ((1 : Int) + (m : Int) != 1 + (m : Int)) = false := by simp
  have hnn : ¬ (1 : Int) + (m : Int) < 0 := by omega
  have hkn : ¬ (1 : Int) + 8 * (rn : Int) + (n : Int) < 0 := by omega
  replace hin : Hid (∀ u ∈ ns, In6 u) := hin
  have hmk : Hid (∀ u ∈ mkN6 1 m, In6 u) := mkN6_in 1 m (by omega) (by omega) (by omega)
  go_enter Try.func6, Try.ntmps6
  go_wp2_with fail
  refine (szRs_ok y rn rk 1048576 _ (Nat.le_refl _) hrm).mono ?_
  rintro e w0 ⟨rfl, rfl⟩
  rw [eL]
  go_wp2_with fail
  refine (szAt_ok o nx md lo x n c L _ hL hnL).mono ?_
  rintro e w1 ⟨rfl, hn1⟩
  have hLn : ¬ (L : Int) - (n : Int) < 0 := by omega
  have bP1 := bP0.new hn1
  have bA1 := bA0.new hn1
  have N1 := N0.trans hn1
  have z1 := hn1.size
  clear bP0 bA0 N0
  clear hn1
  have sz1 : w.heap.size + 2 ≤ w1.heap.size := by simp at z1; omega
  go_upto_region 8 with fail
  go_cut [10] from 28 to 35 (fun u wx => ∃ B a kk, u = .pointer (some ⟨B, 0, none⟩) ∧ Blk wx B 50 #[.int .i64 rc, .int .i64 rr, .int .i64 ro, .slice a m kk, .int .i64 rx, .int .i64 rd, .int .i64 rl] ∧ OvN wx w1.heap.size (.slice a m kk) ns ∧ w1.heap.size ≤ B ∧ (∀ j, (Value.slice a m kk).ownBlock = some j → ¬ j = B) ∧ New w1 wx)
  case first =>
    have cA := bP1.cells
    have cB := bA1.cells
    have dA := bP1
    have dB := bA1
    have dN : New w1 w1 := New.refl _
    have dh := h.new N1
    have dr := hr.new N1
    go_region_held3 (fun W => (∀ j, W.cell? ⟨w.heap.size, j, none⟩ = #[Value.int .i64 p, .int .i64 q][j]?) ∧ (∀ j, W.cell? ⟨w.heap.size + 1, j, none⟩ = #[Value.int .i64 o, .slice x n c, .int .i64 nx, .int .i64 md, .int .i64 lo][j]?)) (exact ⟨by intro j; (try simp (disch := exact neA) only [cell_set6]); first | exact cA j | exact dA.cells j | exact (dA.alloc _).cells j, by intro j; (try simp (disch := exact neB) only [cell_set6]); first | exact cB j | exact dB.cells j | exact (dB.alloc _).cells j⟩)
      (first
        | (go_at_call 14; refine (toRs_any y rn rk rs _ (by first | exact dr | exact dr.new ((New.refl _).drew) | exact dr.new ((New.refl _).alloc _) | exact dr.new (((New.refl _).alloc _).drew)) HR.out hrm).mono ?_; rintro e wx ⟨gl, rfl, hgl, ol, h1⟩; (try simp only [New.drew_mark6, New.alloc_mark6] at h1); first | (have hM := And.right h1; have h1 := And.left h1; have dV := Blk.laid6 hM; have cV := dV.cells; have fV := dV.frees; have lV := dV.lt; have dL := dN.size; have neA := ne6a dL sz1; have neB := ne6b dL sz1; have dA := dA.new h1; have dB := dB.new h1; have dh := dh.new h1; have dr := dr.new h1; (try have pl := pl.new h1); (try have pq := pq.new h1); have dN := dN.trans h1; have dS := dN.size; have pl := ol.rs) | (have dA := dA.new h1; have dB := dB.new h1; have dh := dh.new h1; have dr := dr.new h1; (try have pl := pl.new h1); (try have pq := pq.new h1); have dN := dN.trans h1; have dS := dN.size; have pl := ol.rs; (try (have dV := dV.new h1; have cV := dV.cells; have fV := dV.frees; have lV := dV.lt))))
        | (go_at_call 19; refine (toPrefix_any p q _).mono ?_; rintro e wx ⟨rfl, h2⟩; (try simp only [New.drew_mark6, New.alloc_mark6] at h2); first | (have hM := And.right h2; have h2 := And.left h2; have dV := Blk.laid6 hM; have cV := dV.cells; have fV := dV.frees; have lV := dV.lt; have dL := dN.size; have neA := ne6a dL sz1; have neB := ne6b dL sz1; have dA := dA.new h2; have dB := dB.new h2; have dh := dh.new h2; have dr := dr.new h2; (try have pl := pl.new h2); (try have pq := pq.new h2); have dN := dN.trans h2; have dS := dN.size) | (have dA := dA.new h2; have dB := dB.new h2; have dh := dh.new h2; have dr := dr.new h2; (try have pl := pl.new h2); (try have pq := pq.new h2); have dN := dN.trans h2; have dS := dN.size; (try (have dV := dV.new h2; have cV := dV.cells; have fV := dV.frees; have lV := dV.lt))))
        | (go_at_call 20; refine (toAt_any o nx md lo x n c xs _ (by first | exact dh | exact dh.new ((New.refl _).drew) | exact dh.new ((New.refl _).alloc _) | exact dh.new (((New.refl _).alloc _).drew)) HN.out hm').mono ?_; rintro e wx ⟨gq, rfl, hgq, oq, h3⟩; (try simp only [New.drew_mark6, New.alloc_mark6] at h3); first | (have hM := And.right h3; have h3 := And.left h3; have dV := Blk.laid6 hM; have cV := dV.cells; have fV := dV.frees; have lV := dV.lt; have dL := dN.size; have neA := ne6a dL sz1; have neB := ne6b dL sz1; have dA := dA.new h3; have dB := dB.new h3; have dh := dh.new h3; have dr := dr.new h3; (try have pl := pl.new h3); (try have pq := pq.new h3); have dN := dN.trans h3; have dS := dN.size; have pq := oq.ns hbd.out) | (have dA := dA.new h3; have dB := dB.new h3; have dh := dh.new h3; have dr := dr.new h3; (try have pl := pl.new h3); (try have pq := pq.new h3); have dN := dN.trans h3; have dS := dN.size; have pq := oq.ns hbd.out; (try (have dV := dV.new h3; have cV := dV.cells; have fV := dV.frees; have lV := dV.lt))))
        | (go_at_call 23; refine (hS.out _ _ _ (by first | exact pl | exact pl.new ((New.refl _).drew) | exact pl.new ((New.refl _).alloc _) | exact pl.new (((New.refl _).alloc _).drew)) (by first | exact pq | exact pq.new ((New.refl _).drew) | exact pq.new ((New.refl _).alloc _) | exact pq.new (((New.refl _).alloc _).drew))).mono ?_; rintro e wx hxx; obtain ⟨a, kk, rfl, ho, h4⟩ := hxx.opened HM.out; have hlow : OvN wx w1.heap.size (.slice a m kk) ns := ho.low (by first | exact dN.size | (have := dN.size; simp; omega)); (try simp only [New.drew_mark6, New.alloc_mark6] at h4); first | (have hM := And.right h4; have h4 := And.left h4; have dV := Blk.laid6 hM; have cV := dV.cells; have fV := dV.frees; have lV := dV.lt; have dL := dN.size; have neA := ne6a dL sz1; have neB := ne6b dL sz1; have dA := dA.new h4; have dB := dB.new h4; have dh := dh.new h4; have dr := dr.new h4; (try have pl := pl.new h4); (try have pq := pq.new h4); have dN := dN.trans h4; have dS := dN.size) | (have dA := dA.new h4; have dB := dB.new h4; have dh := dh.new h4; have dr := dr.new h4; (try have pl := pl.new h4); (try have pq := pq.new h4); have dN := dN.trans h4; have dS := dN.size; (try (have dV := dV.new h4; have cV := dV.cells; have fV := dV.frees; have lV := dV.lt)))))
    all_goals
      go_wp2_with fail
      go_meet
      case rel =>
        first
        | (have neV := hlow.ne_blk dV (by decide)
           refine (fun (hT : Turn (fun j => j = _) wx _) => ⟨_, a, kk, rfl, blk7 _ _ _ _ _ _ _ dV, hlow.turn2 hT neV, dL, neV, dN.before hT (fun i hi e => by omega)⟩) ?_
           exact Turn.here6 (Turn.here6 (Turn.here6 (Turn.here6 (Turn.here6 (Turn.here6 (Turn.here6 (Turn.refl _ _) _) _) _) _) _) _) _)
        | exact ⟨_, a, kk, rfl, Blk.mk _ _ _ _ rfl, hlow.new ((New.refl _).alloc _), dS, fun j e => by have := (hlow.rng j e).2; omega, dN.alloc _⟩
  case rest =>
  obtain ⟨B4, a4, kk4, rfl, bY4, oY4, lB4, nB4, hc4⟩ := hcut
  generalize wc = w4 at *
  have bP4 := bP1.new hc4
  have bA4 := bA1.new hc4
  have N4 := N1.trans hc4
  have z4 := hc4.size
  clear bP1 bA1 N1
  have bW4 := bY4
  have nW4 := oY4.nsAt hin.out
  have rW : ∀ j, (Value.slice a4 m kk4).ownBlock = some j → j < w4.heap.size := fun j e => (oY4.rng j e).2
  have lW : B4 < w4.heap.size := bY4.lt
  have sz4 : w.heap.size + 2 ≤ w4.heap.size := by omega
  clear bY4 oY4 hc4
  have cA := bA4.cells
  go_wp2_with fail
  refine (toRs_any y rn rk rs _ (hr.new N4) HR.out hrm).mono ?_
  rintro e w5 ⟨g5, rfl, hg5, oL5, hn5⟩
  have bP5 := bP4.new hn5
  have bA5 := bA4.new hn5
  have bW5 := bW4.new hn5
  have nW5 := nW4.new hn5
  have N5 := N4.trans hn5
  have z5 := hn5.size
  clear bP4 bA4 bW4 nW4 N4
  have lL := oL5.lt
  clear hn5 cA
  have cA := bA5.cells
  go_wp2_with fail
  refine (toAt_any o nx md lo x n c xs _ (h.new N5) HN.out hm').mono ?_
  rintro e w6 ⟨g6, rfl, hg6, oX6, hn6⟩
  have bP6 := bP5.new hn6
  have bA6 := bA5.new hn6
  have bW6 := bW5.new hn6
  have nW6 := nW5.new hn6
  have oL6 := oL5.new hn6
  have N6 := N5.trans hn6
  have z6 := hn6.size
  clear bP5 bA5 bW5 nW5 oL5 N5
  have lX := oX6.lt
  go_upto_region 11 with fail
  have hal : New w6 (w6.alloc (.cells #[.int .i64 o, .slice (some ⟨g6, 0, none⟩) n n, .int .i64 nx, .int .i64 md, .int .i64 lo] 45)) := (New.refl _).alloc _
  have bX7 : Blk (w6.alloc (.cells #[.int .i64 o, .slice (some ⟨g6, 0, none⟩) n n, .int .i64 nx, .int .i64 md, .int .i64 lo] 45)) w6.heap.size 45 #[.int .i64 o, .slice (some ⟨g6, 0, none⟩) n n, .int .i64 nx, .int .i64 md, .int .i64 lo] := Blk.mk _ _ _ _ rfl
  have ltX7 : w6.heap.size < (w6.alloc (.cells #[.int .i64 o, .slice (some ⟨g6, 0, none⟩) n n, .int .i64 nx, .int .i64 md, .int .i64 lo] 45)).heap.size := by simp
  have bP7 := bP6.new hal
  have bA7 := bA6.new hal
  have bW7 := bW6.new hal
  have nW7 := nW6.new hal
  have oL7 := oL6.new hal
  have oX7 := oX6.new hal
  have N7 := N6.trans hal
  have z7 := hal.size
  clear bP6 bA6 bW6 nW6 oL6 oX6 N6
  clear hal hn6 cA
  have sz7 : w.heap.size + 2 ≤ (w6.alloc (.cells #[.int .i64 o, .slice (some ⟨g6, 0, none⟩) n n, .int .i64 nx, .int .i64 md, .int .i64 lo] 45)).heap.size := by omega
  generalize w6.alloc (.cells #[.int .i64 o, .slice (some ⟨g6, 0, none⟩) n n, .int .i64 nx, .int .i64 md, .int .i64 lo] 45) = w7 at *
  go_upto_region 11 with fail
  go_cut [13] from 40 to 45 (fun u wx => ∃ B a kk, u = .pointer (some ⟨B, 0, none⟩) ∧ Blk wx B 50 #[.int .i64 rc, .int .i64 rr, .int .i64 ro, .slice a m kk, .int .i64 rx, .int .i64 rd, .int .i64 rl] ∧ OvN wx w7.heap.size (.slice a m kk) ns ∧ w7.heap.size ≤ B ∧ (∀ j, (Value.slice a m kk).ownBlock = some j → ¬ j = B) ∧ New w7 wx)
  case first =>
    have cA := bP7.cells
    have cB := bX7.cells
    have dA := bP7
    have dB := bX7
    have dN : New w7 w7 := New.refl _
    have dh := h.new N7
    have dr := hr.new N7
    have pl := oL7.rs
    have pq := oX7.ns hbd.out
    go_region_held3 (fun W => (∀ j, W.cell? ⟨w.heap.size, j, none⟩ = #[Value.int .i64 p, .int .i64 q][j]?) ∧ (∀ j, W.cell? ⟨w6.heap.size, j, none⟩ = #[Value.int .i64 o, .slice (some ⟨g6, 0, none⟩) n n, .int .i64 nx, .int .i64 md, .int .i64 lo][j]?)) (exact ⟨by intro j; (try simp (disch := exact neA) only [cell_set6]); first | exact cA j | exact dA.cells j | exact (dA.alloc _).cells j, by intro j; (try simp (disch := exact neB) only [cell_set6]); first | exact cB j | exact dB.cells j | exact (dB.alloc _).cells j⟩)
      (first
        | (go_at_call 19; refine (toPrefix_any p q _).mono ?_; rintro e wx ⟨rfl, h2⟩; (try simp only [New.drew_mark6, New.alloc_mark6] at h2); first | (have hM := And.right h2; have h2 := And.left h2; have dV := Blk.laid6 hM; have cV := dV.cells; have fV := dV.frees; have lV := dV.lt; have dL := dN.size; have neA := ne6a dL sz7; have neB := ne6c dL ltX7; have dA := dA.new h2; have dB := dB.new h2; have dh := dh.new h2; have dr := dr.new h2; (try have pl := pl.new h2); (try have pq := pq.new h2); have dN := dN.trans h2; have dS := dN.size) | (have dA := dA.new h2; have dB := dB.new h2; have dh := dh.new h2; have dr := dr.new h2; (try have pl := pl.new h2); (try have pq := pq.new h2); have dN := dN.trans h2; have dS := dN.size; (try (have dV := dV.new h2; have cV := dV.cells; have fV := dV.frees; have lV := dV.lt))))
        | (go_at_call 24; refine (hI.out _ _ _ (by first | exact pl | exact pl.new ((New.refl _).drew) | exact pl.new ((New.refl _).alloc _) | exact pl.new (((New.refl _).alloc _).drew)) (by first | exact pq | exact pq.new ((New.refl _).drew) | exact pq.new ((New.refl _).alloc _) | exact pq.new (((New.refl _).alloc _).drew))).mono ?_; rintro e wx hxx; obtain ⟨a, kk, rfl, ho, h4⟩ := hxx.opened HM.out; have hlow : OvN wx w7.heap.size (.slice a m kk) ns := ho.low (by first | exact dN.size | (have := dN.size; simp; omega)); (try simp only [New.drew_mark6, New.alloc_mark6] at h4); first | (have hM := And.right h4; have h4 := And.left h4; have dV := Blk.laid6 hM; have cV := dV.cells; have fV := dV.frees; have lV := dV.lt; have dL := dN.size; have neA := ne6a dL sz7; have neB := ne6c dL ltX7; have dA := dA.new h4; have dB := dB.new h4; have dh := dh.new h4; have dr := dr.new h4; (try have pl := pl.new h4); (try have pq := pq.new h4); have dN := dN.trans h4; have dS := dN.size) | (have dA := dA.new h4; have dB := dB.new h4; have dh := dh.new h4; have dr := dr.new h4; (try have pl := pl.new h4); (try have pq := pq.new h4); have dN := dN.trans h4; have dS := dN.size; (try (have dV := dV.new h4; have cV := dV.cells; have fV := dV.frees; have lV := dV.lt)))))
    all_goals
      go_wp2_with fail
      go_meet
      case rel =>
        first
        | (have neV := hlow.ne_blk dV (by decide)
           refine (fun (hT : Turn (fun j => j = _) wx _) => ⟨_, a, kk, rfl, blk7 _ _ _ _ _ _ _ dV, hlow.turn2 hT neV, dL, neV, dN.before hT (fun i hi e => by omega)⟩) ?_
           exact Turn.here6 (Turn.here6 (Turn.here6 (Turn.here6 (Turn.here6 (Turn.here6 (Turn.here6 (Turn.refl _ _) _) _) _) _) _) _) _)
        | exact ⟨_, a, kk, rfl, Blk.mk _ _ _ _ rfl, hlow.new ((New.refl _).alloc _), dS, fun j e => by have := (hlow.rng j e).2; omega, dN.alloc _⟩
  case rest =>
  obtain ⟨B8, a8, kk8, rfl, bY8, oY8, lB8, nB8, hc8⟩ := hcut
  generalize wc = w8 at *
  have bP8 := bP7.new hc8
  have bA8 := bA7.new hc8
  have bW8 := bW7.new hc8
  have nW8 := nW7.new hc8
  have oL8 := oL7.new hc8
  have oX8 := oX7.new hc8
  have bX8 := bX7.new hc8
  have N8 := N7.trans hc8
  have z8 := hc8.size
  clear bP7 bA7 bW7 nW7 oL7 oX7 bX7 N7
  have bG8 := bY8
  have oG8 := oY8
  have rG : ∀ j, (Value.slice a8 m kk8).ownBlock = some j → w7.heap.size ≤ j ∧ ¬ j = B8 := fun j e => ⟨(oY8.rng j e).1, nB8 j e⟩
  clear bY8 oY8 hc8
  have cW := bW8.cells
  have cG := bG8.cells
  go_wp2_with fail
  refine (eqAR rc rr ro rx rd rl _ _ m _ _ ns _ (oG8.nsAt hin.out) nW8 HM.out (by omega)).mono ?_
  rintro e w9 ⟨rfl, hn9⟩
  have bP9 := bP8.new hn9
  have bA9 := bA8.new hn9
  have bW9 := bW8.new hn9
  have nW9 := nW8.new hn9
  have oL9 := oL8.new hn9
  have oX9 := oX8.new hn9
  have bX9 := bX8.new hn9
  have bG9 := bG8.new hn9
  have oG9 := oG8.new hn9
  have N9 := N8.trans hn9
  have z9 := hn9.size
  clear bP8 bA8 bW8 nW8 oL8 oX8 bX8 bG8 oG8 N8
  clear hn9 cW cG
  go_wp2_with fail
  refine (toRs_any y rn rk rs _ (hr.new N9) HR.out hrm).mono ?_
  rintro e w10 ⟨g10, rfl, hg10, oM10, hn10⟩
  have bP10 := bP9.new hn10
  have bA10 := bA9.new hn10
  have bW10 := bW9.new hn10
  have nW10 := nW9.new hn10
  have oL10 := oL9.new hn10
  have oX10 := oX9.new hn10
  have bX10 := bX9.new hn10
  have bG10 := bG9.new hn10
  have oG10 := oG9.new hn10
  have N10 := N9.trans hn10
  have z10 := hn10.size
  clear bP9 bA9 bW9 nW9 oL9 oX9 bX9 bG9 oG9 N9
  clear hn10
  go_wp2_with fail
  refine (eqRs_any _ _ rn rn rn rs _ oL10.rs oM10.rs HR.out hrm).mono ?_
  rintro e w11 ⟨rfl, hn11⟩
  clear oM10 hg10
  have bP11 := bP10.new hn11
  have bA11 := bA10.new hn11
  have bW11 := bW10.new hn11
  have nW11 := nW10.new hn11
  have oL11 := oL10.new hn11
  have oX11 := oX10.new hn11
  have bX11 := bX10.new hn11
  have bG11 := bG10.new hn11
  have oG11 := oG10.new hn11
  have N11 := N10.trans hn11
  have z11 := hn11.size
  clear bP10 bA10 bW10 nW10 oL10 oX10 bX10 bG10 oG10 N10
  clear hn11
  have ho11 := oX11
  have cA := bA11.cells
  have cB := bX11.cells
  go_wp2_with fail
  go_region_held3 (fun W => (∀ j, W.cell? ⟨w.heap.size + 1, j, none⟩ = #[Value.int .i64 o, .slice x n c, .int .i64 nx, .int .i64 md, .int .i64 lo][j]?) ∧ (∀ j, W.cell? ⟨w6.heap.size, j, none⟩ = #[Value.int .i64 o, .slice (some ⟨g6, 0, none⟩) n n, .int .i64 nx, .int .i64 md, .int .i64 lo][j]?)) (first | exact ⟨cA, cB⟩ | exact ⟨cA7, cB7⟩ | exact ⟨cA8, cB8⟩)
    (first
      | (go_at_call 20; refine (toAt_any o nx md lo x n c xs _ ?_ HN.out hm').mono ?_; exact (h.new N11).new ((New.refl _).drew); rintro e w17 ⟨g7, rfl, hg7, ho7, hn7⟩; have cA7 := (bA11.new (((New.refl _).drew).trans hn7)).cells; have cB7 := (bX11.new (((New.refl _).drew).trans hn7)).cells)
      | (go_at_call 22; refine (eqAt_any o nx md lo _ _ n n n xs _ ?_ ?_ HN.out hm').mono ?_; exact (ho11.ns hbd.out).new (((New.refl _).drew).trans hn7); exact ho7.ns hbd.out; rintro e w18 ⟨rfl, hn8⟩; have cA8 := (bA11.new ((((New.refl _).drew).trans hn7).trans hn8)).cells; have cB8 := (bX11.new ((((New.refl _).drew).trans hn7).trans hn8)).cells))
  have hn18 : New w11 w18 := (((New.refl _).drew).trans hn7).trans hn8
  clear cA cB cA7 cB7 cA8 cB8 ho11 hn7 hn8 ho7
  have bP18 := bP11.new hn18
  have bA18 := bA11.new hn18
  have bW18 := bW11.new hn18
  have nW18 := nW11.new hn18
  have oL18 := oL11.new hn18
  have oX18 := oX11.new hn18
  have bX18 := bX11.new hn18
  have bG18 := bG11.new hn18
  have oG18 := oG11.new hn18
  have N18 := N11.trans hn18
  have z18 := hn18.size
  clear bP11 bA11 bW11 nW11 oL11 oX11 bX11 bG11 oG11 N11
  clear hn18
  go_wp2_with fail
  refine (markRs6 g5 rn rn rs 1 _ oL18 hrm (by omega) (by omega)).mono ?_
  rintro e w19 ⟨rfl, ht19⟩
  clear oL18
  have nW19 : NsAt w19 a4 ns := nW18.turn ht19 (fun x5 _ hx5 e => by have := rW x5.block (by rw [hx5]; rfl); omega)
  have oX19 := oX18.turn ht19 (by omega)
  have oG19 := oG18.turn2 ht19 (fun j e e2 => by have := (rG j e).1; omega)
  clear nW18 oX18 oG18
  have bP19 := bP18.turn ht19 (by omega)
  have bA19 := bA18.turn ht19 (by omega)
  have bW19 := bW18.turn ht19 (by omega)
  have bX19 := bX18.turn ht19 (by omega)
  have bG19 := bG18.turn ht19 (by omega)
  have N19 := N18.before ht19 (fun i hi e => by omega)
  have z19 := ht19.size
  clear bP18 bA18 bW18 bX18 bG18 N18
  clear ht19
  have cX := bX19.cells
  go_wp2_with fail
  refine (markAt6 o nx md lo g6 (some ⟨g6, 0, none⟩) n n xs (1 + 8 * (rn : Int)) _ oX19.ov HN.out hm' (by omega) (by omega)).mono ?_
  rintro e w20 ⟨rfl, oZ20, ht20⟩
  replace ht20 : Turn (fun j => j = g6) w19 w20 := ht20.mono (fun i _ e => (Option.some.inj e).symm)
  clear cX oX19 oZ20
  have nW20 : NsAt w20 a4 ns := nW19.turn ht20 (fun x5 _ hx5 e => by have := rW x5.block (by rw [hx5]; rfl); omega)
  have oG20 := oG19.turn2 ht20 (fun j e e2 => by have := (rG j e).1; omega)
  clear nW19 oG19 bX19
  have bP20 := bP19.turn ht20 (by omega)
  have bA20 := bA19.turn ht20 (by omega)
  have bW20 := bW19.turn ht20 (by omega)
  have bG20 := bG19.turn ht20 (by omega)
  have N20 := N19.before ht20 (fun i hi e => by omega)
  have z20 := ht20.size
  clear bP19 bA19 bW19 bG19 N19
  clear ht20
  have cW := bW20.cells
  have cG := bG20.cells
  go_wp2_with fail
  refine (eqAR rc rr ro rx rd rl _ _ m _ _ ns _ (oG20.nsAt hin.out) nW20 HM.out (by omega)).mono ?_
  rintro e w21 ⟨rfl, hn21⟩
  have bP21 := bP20.new hn21
  have bA21 := bA20.new hn21
  have bW21 := bW20.new hn21
  have nW21 := nW20.new hn21
  have bG21 := bG20.new hn21
  have oG21 := oG20.new hn21
  have N21 := N20.trans hn21
  have z21 := hn21.size
  clear bP20 bA20 bW20 nW20 bG20 oG20 N20
  clear hn21 cW cG
  have cG := bG21.cells
  go_wp2_with fail
  refine (markAR rc rr ro rx rd rl w7.heap.size a8 m kk8 ns 1 _ oG21 HM.out (by omega) (by omega) (by omega)).mono ?_
  rintro e w22 ⟨rfl, oM22, ht22⟩
  have nW22 : NsAt w22 a4 ns := nW21.turn ht22 (fun x5 _ hx5 e => by have := rW x5.block (by rw [hx5]; rfl); have := (rG _ e).1; omega)
  clear nW21 oG21 cG
  have bP22 := bP21.turn ht22 (fun e => by have := (rG _ e).1; omega)
  have bA22 := bA21.turn ht22 (fun e => by have := (rG _ e).1; omega)
  have bW22 := bW21.turn ht22 (fun e => by have := (rG _ e).1; omega)
  have bG22 := bG21.turn ht22 (fun e => (rG _ e).2 rfl)
  have N22 := N21.before ht22 (fun i hi e => by have := (rG _ e).1; omega)
  have z22 := ht22.size
  clear bP21 bA21 bW21 bG21 N21
  clear ht22
  have cG := bG22.cells
  go_wp2_with fail
  refine (heldAR rc rr ro rx rd rl a8 m kk8 1 _ (oM22.nsAt hmk.out) (by omega) (by omega) (by omega)).mono ?_
  rintro e w23 ⟨rfl, hn23⟩
  have bP23 := bP22.new hn23
  have bA23 := bA22.new hn23
  have bW23 := bW22.new hn23
  have bG23 := bG22.new hn23
  have nW23 := nW22.new hn23
  have oM23 := oM22.new hn23
  have N23 := N22.trans hn23
  have z23 := hn23.size
  clear bP22 bA22 bW22 bG22 nW22 oM22 N22
  clear hn23 cG
  have sz23 : w.heap.size + 2 ≤ w23.heap.size := by omega
  go_upto_region 31 with fail
  go_cut [17] from 85 to 92 (fun u wx => ∃ B a kk, u = .pointer (some ⟨B, 0, none⟩) ∧ Blk wx B 50 #[.int .i64 rc, .int .i64 rr, .int .i64 ro, .slice a m kk, .int .i64 rx, .int .i64 rd, .int .i64 rl] ∧ OvN wx w23.heap.size (.slice a m kk) ns ∧ w23.heap.size ≤ B ∧ (∀ j, (Value.slice a m kk).ownBlock = some j → ¬ j = B) ∧ New w23 wx)
  case first =>
    have cA := bP23.cells
    have cB := bA23.cells
    have dA := bP23
    have dB := bA23
    have dN : New w23 w23 := New.refl _
    have dh := h.new N23
    have dr := hr.new N23
    go_region_held3 (fun W => (∀ j, W.cell? ⟨w.heap.size, j, none⟩ = #[Value.int .i64 p, .int .i64 q][j]?) ∧ (∀ j, W.cell? ⟨w.heap.size + 1, j, none⟩ = #[Value.int .i64 o, .slice x n c, .int .i64 nx, .int .i64 md, .int .i64 lo][j]?)) (exact ⟨by intro j; (try simp (disch := exact neA) only [cell_set6]); first | exact cA j | exact dA.cells j | exact (dA.alloc _).cells j, by intro j; (try simp (disch := exact neB) only [cell_set6]); first | exact cB j | exact dB.cells j | exact (dB.alloc _).cells j⟩)
      (first
        | (go_at_call 14; refine (toRs_any y rn rk rs _ (by first | exact dr | exact dr.new ((New.refl _).drew) | exact dr.new ((New.refl _).alloc _) | exact dr.new (((New.refl _).alloc _).drew)) HR.out hrm).mono ?_; rintro e wx ⟨gl, rfl, hgl, ol, h1⟩; (try simp only [New.drew_mark6, New.alloc_mark6] at h1); first | (have hM := And.right h1; have h1 := And.left h1; have dV := Blk.laid6 hM; have cV := dV.cells; have fV := dV.frees; have lV := dV.lt; have dL := dN.size; have neA := ne6a dL sz23; have neB := ne6b dL sz23; have dA := dA.new h1; have dB := dB.new h1; have dh := dh.new h1; have dr := dr.new h1; (try have pl := pl.new h1); (try have pq := pq.new h1); have dN := dN.trans h1; have dS := dN.size; have pl := ol.rs) | (have dA := dA.new h1; have dB := dB.new h1; have dh := dh.new h1; have dr := dr.new h1; (try have pl := pl.new h1); (try have pq := pq.new h1); have dN := dN.trans h1; have dS := dN.size; have pl := ol.rs; (try (have dV := dV.new h1; have cV := dV.cells; have fV := dV.frees; have lV := dV.lt))))
        | (go_at_call 19; refine (toPrefix_any p q _).mono ?_; rintro e wx ⟨rfl, h2⟩; (try simp only [New.drew_mark6, New.alloc_mark6] at h2); first | (have hM := And.right h2; have h2 := And.left h2; have dV := Blk.laid6 hM; have cV := dV.cells; have fV := dV.frees; have lV := dV.lt; have dL := dN.size; have neA := ne6a dL sz23; have neB := ne6b dL sz23; have dA := dA.new h2; have dB := dB.new h2; have dh := dh.new h2; have dr := dr.new h2; (try have pl := pl.new h2); (try have pq := pq.new h2); have dN := dN.trans h2; have dS := dN.size) | (have dA := dA.new h2; have dB := dB.new h2; have dh := dh.new h2; have dr := dr.new h2; (try have pl := pl.new h2); (try have pq := pq.new h2); have dN := dN.trans h2; have dS := dN.size; (try (have dV := dV.new h2; have cV := dV.cells; have fV := dV.frees; have lV := dV.lt))))
        | (go_at_call 20; refine (toAt_any o nx md lo x n c xs _ (by first | exact dh | exact dh.new ((New.refl _).drew) | exact dh.new ((New.refl _).alloc _) | exact dh.new (((New.refl _).alloc _).drew)) HN.out hm').mono ?_; rintro e wx ⟨gq, rfl, hgq, oq, h3⟩; (try simp only [New.drew_mark6, New.alloc_mark6] at h3); first | (have hM := And.right h3; have h3 := And.left h3; have dV := Blk.laid6 hM; have cV := dV.cells; have fV := dV.frees; have lV := dV.lt; have dL := dN.size; have neA := ne6a dL sz23; have neB := ne6b dL sz23; have dA := dA.new h3; have dB := dB.new h3; have dh := dh.new h3; have dr := dr.new h3; (try have pl := pl.new h3); (try have pq := pq.new h3); have dN := dN.trans h3; have dS := dN.size; have pq := oq.ns hbd.out) | (have dA := dA.new h3; have dB := dB.new h3; have dh := dh.new h3; have dr := dr.new h3; (try have pl := pl.new h3); (try have pq := pq.new h3); have dN := dN.trans h3; have dS := dN.size; have pq := oq.ns hbd.out; (try (have dV := dV.new h3; have cV := dV.cells; have fV := dV.frees; have lV := dV.lt))))
        | (go_at_call 24; refine (hI.out _ _ _ (by first | exact pl | exact pl.new ((New.refl _).drew) | exact pl.new ((New.refl _).alloc _) | exact pl.new (((New.refl _).alloc _).drew)) (by first | exact pq | exact pq.new ((New.refl _).drew) | exact pq.new ((New.refl _).alloc _) | exact pq.new (((New.refl _).alloc _).drew))).mono ?_; rintro e wx hxx; obtain ⟨a, kk, rfl, ho, h4⟩ := hxx.opened HM.out; have hlow : OvN wx w23.heap.size (.slice a m kk) ns := ho.low (by first | exact dN.size | (have := dN.size; simp; omega)); (try simp only [New.drew_mark6, New.alloc_mark6] at h4); first | (have hM := And.right h4; have h4 := And.left h4; have dV := Blk.laid6 hM; have cV := dV.cells; have fV := dV.frees; have lV := dV.lt; have dL := dN.size; have neA := ne6a dL sz23; have neB := ne6b dL sz23; have dA := dA.new h4; have dB := dB.new h4; have dh := dh.new h4; have dr := dr.new h4; (try have pl := pl.new h4); (try have pq := pq.new h4); have dN := dN.trans h4; have dS := dN.size) | (have dA := dA.new h4; have dB := dB.new h4; have dh := dh.new h4; have dr := dr.new h4; (try have pl := pl.new h4); (try have pq := pq.new h4); have dN := dN.trans h4; have dS := dN.size; (try (have dV := dV.new h4; have cV := dV.cells; have fV := dV.frees; have lV := dV.lt)))))
    all_goals
      go_wp2_with fail
      go_meet
      case rel =>
        first
        | (have neV := hlow.ne_blk dV (by decide)
           refine (fun (hT : Turn (fun j => j = _) wx _) => ⟨_, a, kk, rfl, blk7 _ _ _ _ _ _ _ dV, hlow.turn2 hT neV, dL, neV, dN.before hT (fun i hi e => by omega)⟩) ?_
           exact Turn.here6 (Turn.here6 (Turn.here6 (Turn.here6 (Turn.here6 (Turn.here6 (Turn.here6 (Turn.refl _ _) _) _) _) _) _) _) _)
        | exact ⟨_, a, kk, rfl, Blk.mk _ _ _ _ rfl, hlow.new ((New.refl _).alloc _), dS, fun j e => by have := (hlow.rng j e).2; omega, dN.alloc _⟩
  case rest =>
  obtain ⟨B24, a24, kk24, rfl, bY24, oY24, lB24, nB24, hc24⟩ := hcut
  generalize wc = w24 at *
  have bW24 := bW23.new hc24
  have bG24 := bG23.new hc24
  have nW24 := nW23.new hc24
  have oM24 := oM23.new hc24
  have N24 := N23.trans hc24
  have z24 := hc24.size
  clear bW23 bG23 nW23 oM23 N23
  have nH := oY24.nsAt hin.out
  have cW := bW24.cells
  have cH := bY24.cells
  go_wp2_with fail
  refine (eqAR rc rr ro rx rd rl _ _ m _ _ ns _ nH nW24 HM.out (by omega)).mono ?_
  rintro e w25 ⟨rfl, hn25⟩
  have bG25 := bG24.new hn25
  have oM25 := oM24.new hn25
  have N25 := N24.trans hn25
  clear cW cH
  have cG := bG25.cells
  go_wp2_with fail
  refine (heldAR rc rr ro rx rd rl a8 m kk8 1 _ (oM25.nsAt hmk.out) (by omega) (by omega) (by omega)).mono ?_
  rintro e w26 ⟨rfl, hn26⟩
  go_wp2
  go_ret
  exact ⟨rfl, N25.trans hn26⟩

set_option maxRecDepth 100000 in
theorem aar_lifted (os : Os) (started : os.Started) (H : Type) (enc : TypeId × Value → H) :
    ReturnsInHanded {} Try.checked os 6 .any (Rows.fnExactApplyRulesSpec.pre6 enc Try.prog Try.f6 Rows.fnExactApplyRulesRow.domain false) (Rows.fnExactApplyRulesSpec.post enc Try.prog Try.f6 false true false false) := by
  refine returnsInHanded_of_change (C := Try.checked) own started (by kernel_rfl) Try.func6
    (ChangeSpec.witness6 (enc := enc) (C := Try.checked) false ⟨#[], #[.slice none 0 0, .int .i64 0, .agg #[.int .i64 0, .int .i64 0], .agg #[.int .i64 0, .slice none 0 0, .int .i64 0, .int .i64 0, .int .i64 0]], []⟩ 8 (by kernel_rfl) (by kernel_rfl) (by kernel_rfl) (by kernel_rfl)) ?_
  intro W base args ds gs before hval0 hW hcnd _
  have hval : ∀ (j : Nat) t v, Try.f6.params[j]? = some t → args[j]? = some v → Value.okWide Try.prog W .any base t v := hval0
  have hW' := hW
  obtain ⟨p, q, hA0, hV, rfl, hfz, hnd⟩ := hW
  have hA : DataW.TrodAll enc Try.prog W 0 (fun _ => true) true Try.f6.params.toList args.toList ds p := hA0
  rw [Try.params6] at hA hval
  obtain ⟨v0, vs0, d0, ds0, p0, q0, hargs, rfl, rfl, h0, r0⟩ := trodAll_cons hA
  obtain ⟨v1, vs1, d1, ds1, p1, q1, rfl, rfl, rfl, h1, r1⟩ := trodAll_cons r0
  obtain ⟨v2, vs2, d2, ds2, p2, q2, rfl, rfl, rfl, h2, r2⟩ := trodAll_cons r1
  obtain ⟨v3, vs3, d3, ds3, p3, q3, rfl, rfl, rfl, h3, r3⟩ := trodAll_cons r2
  obtain ⟨rfl, rfl, rfl⟩ := trodAll_nil r3
  obtain rfl : args = #[v0, v1, v2, v3] := by cases args; simp_all
  obtain ⟨rfl, rfl⟩ := trodVars_none hV
  have k0 := h0
  have lt0 : ∀ x ∈ p0, x.block < W.heap.size := by obtain ⟨m, hm⟩ := k0; exact DataW.trod_lt m _ _ _ hm
  obtain ⟨a0, len0, cap0, rfl⟩ := okWide_slice Try.underlying32 (hval 0 32 v0 rfl rfl)
  obtain ⟨z0, b0, e0, m0⟩ := open_rules h0
  obtain ⟨a1, rfl, rfl, rfl, w1⟩ := open_int Try.underlying2 (hval 1 2 v1 rfl rfl) h1
  have k2 := h2
  have lt2 : ∀ x ∈ p2, x.block < W.heap.size := by obtain ⟨m, hm⟩ := k2; exact DataW.trod_lt m _ _ _ hm
  obtain ⟨a2, l2, rfl, wa2, wl2⟩ := open_prefix (hval 2 23 v2 rfl rfl) h2
  have k3 := h3
  have lt3 : ∀ x ∈ p3, x.block < W.heap.size := by obtain ⟨m, hm⟩ := k3; exact DataW.trod_lt m _ _ _ hm
  obtain ⟨o3, nx3, md3, lc3, a3, n3, c3, x3, rfl, b3, e3, m3, io3, in3, im3, il3⟩ := open_attrs (hval 3 41 v3 rfl rfl) h3
  clear hA0 hval0
  refine (aar_walk a0 len0 cap0 z0 a1 a2 l2 o3 nx3 md3 lc3 a3 n3 c3 x3 W b0 e0 m0 b3 e3 m3).mono fun e W' ⟨he, new⟩ => ?_
  have bel := new.below
  subst he
  exact ⟨_, rfl, _, _, _, [], _, [], hW', trodAll_mk1 (shut_bool Try.underlying4 _), (trodAll_cons_mk (Below.trod laidOut (by kernel_rfl) (of_decide_eq_true (by kernel_rfl)) k0 bel lt0) (trodAll_cons_mk (shut_int Try.underlying2 w1) (trodAll_cons_mk (Below.trod laidOut (by kernel_rfl) (of_decide_eq_true (by kernel_rfl)) k2 bel lt2) (trodAll_cons_mk (Below.trod laidOut (by kernel_rfl) (of_decide_eq_true (by kernel_rfl)) k3 bel lt3) trodAll_mk0)))), rfl, bel.frame _, fun h => by cases h⟩

theorem aar_holds : Rows.FnExactApplyRulesSaid :=
  OpenClaim.holds_of_wide 6 Try.f6 rfl rfl rfl rfl rfl rfl rfl ⟨rfl, rfl, rfl, rfl, rfl⟩ rfl rfl rfl rfl rfl (by kernel_rfl) Try.func6 (by kernel_rfl)
    (of_decide_eq_true (by kernel_rfl)) (by unfold Func.isWrapper; first | (rw [if_pos (by decide +kernel)]; kernel_rfl) | (rw [if_neg (by decide +kernel)]; exact ⟨rfl, rfl⟩))
    (fun os started H enc _ => aar_lifted os started H enc)

end Go.Proofs.Ytlmojgecflcbkaa
