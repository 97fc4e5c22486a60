/- What is proved here: what the program's reading of an update answers, for every list of at most 1048576 bytes: all of it, in new memory. -/
import Derived.Test.YtljkcijakdhdiaaRdParse
namespace Go.Proofs.Ytljkcijakdhdiaa
open Go.RowKit Go.Sort
set_option linter.unusedVariables false

/-- What the reading of bytes as an update tells. -/
def pu (zs : List Int) : PU :=
  match zs[0]? with
  | none => puZ 5
  | some z => if zs.length < 1 + 3 * z.toNat then puZ 5 else if 0 ≤ ixF (gnL zs z.toNat) then puZ 3 else rdU (gnL zs z.toNat) (zs.drop (1 + 3 * z.toNat))

/-- Three lists of the call's own, in memory that they do not share. -/
structure Got (w : World) (lo : Nat) (p : PU) (x y z : Value) : Prop where
  g : OwQ w lo x p.gs
  n : OwM w lo y p.xs
  r : OwQ w lo z p.rs
  gn : ∀ b, x.ownBlock = some b → y.ownBlock ≠ some b
  gr : ∀ b, x.ownBlock = some b → z.ownBlock ≠ some b
  nr : ∀ b, y.ownBlock = some b → z.ownBlock ≠ some b
theorem Got.turn {w w' : World} {lo : Nat} {p : PU} {x y z : Value} {S : Nat → Prop} (h : Got w lo p x y z) (t : Turn S w w') (hS : ∀ g, lo ≤ g → ¬ S g) : Got w' lo p x y z :=
  ⟨h.g.turn t hS, h.n.turn t hS, h.r.turn t hS, h.gn, h.gr, h.nr⟩
theorem Got.new {w w' : World} {lo : Nat} {p : PU} {x y z : Value} (h : Got w lo p x y z) (t : New w w') : Got w' lo p x y z := h.turn t (fun _ _ f => f)
theorem Got.low {w : World} {lo lo' : Nat} {p : PU} {x y z : Value} (h : Got w lo p x y z) (hb : lo' ≤ lo) : Got w lo' p x y z := ⟨h.g.low hb, h.n.low hb, h.r.low hb, h.gn, h.gr, h.nr⟩
theorem OwQ.nil (w : World) (lo : Nat) : OwQ w lo (.slice none 0 0) [] := .inl ⟨rfl, rfl⟩
theorem OwM.nil (w : World) (lo : Nat) : OwM w lo (.slice none 0 0) [] := .inl ⟨rfl, rfl⟩
theorem own_none : (Value.slice none 0 0).ownBlock = none := rfl
theorem Got.one {w : World} {lo : Nat} {p : PU} {x : Value} (h : OwQ w lo x p.gs) (hx : p.xs = []) (hr : p.rs = []) : Got w lo p x (.slice none 0 0) (.slice none 0 0) :=
  ⟨h, by rw [hx]; exact OwM.nil _ _, by rw [hr]; exact OwQ.nil _ _, (by intro b _ e; cases e), (by intro b _ e; cases e), (by intro b e; cases e)⟩
theorem OwQ.blk {w : World} {lo : Nat} {v : Value} {L : List (Int × Int)} (h : OwQ w lo v L) : ∀ b, v.ownBlock = some b → lo ≤ b ∧ b < w.heap.size := by
  intro b hb
  rcases h with ⟨rfl, _⟩ | ⟨g, c, rfl, h2, h3⟩
  · cases hb
  · obtain rfl := Option.some.inj hb
    exact ⟨h2, h3.lt⟩
theorem OwM.blk {w : World} {lo : Nat} {v : Value} {L : List Int} (h : OwM w lo v L) : ∀ b, v.ownBlock = some b → lo ≤ b ∧ b < w.heap.size := by
  intro b hb
  rcases h with ⟨rfl, _⟩ | ⟨g, c, rfl, h2, h3⟩
  · cases hb
  · obtain rfl := Option.some.inj hb
    exact ⟨h2, h3.lt⟩

/-- The value that is told. -/
def puV (p : PU) (x y z : Value) : Value := .agg #[.int .i64 p.code, .bool p.soft, x, .bool p.has, .int .i64 p.o, y, .int .i64 p.nx, .int .i64 p.md, .int .i64 p.lc, z]

theorem pu_some {zs : List Int} {k : Nat} (h0 : zs[0]? = some (k : Int)) : pu zs = if zs.length < 1 + 3 * k then puZ 5 else if 0 ≤ ixF (gnL zs k) then puZ 3 else rdU (gnL zs k) (zs.drop (1 + 3 * k)) := by
  unfold pu
  rw [h0]
  simp only [Int.toNat_natCast]
theorem rdU_some {gs : List (Int × Int)} {ls : List Int} {k : Nat} (h0 : ls[0]? = some (k : Int)) : rdU gs ls = if ls.length < 8 + 2 * k + 3 ∨ (ls.length - (8 + 2 * k)) % 3 ≠ 0 then puS (gs.take 8) else if ufU (puA gs k ls) = 0 then puA gs k ls else puS ((gs ++ okL (rdP (ls.drop (8 + 2 * k)))).take 8) := by
  unfold rdU
  rw [h0]
  simp only [Int.toNat_natCast]

set_option maxHeartbeats 1600000 in
theorem implParse (a : Option Addr) (n c : Nat) (zs : List Int) (w : World) (h : BsAt w a zs) (hn : zs.length = n) (hcc : n ≤ c) (hm : n ≤ 1048576) :
    Calls Try.prog 61 #[.slice a n c] w fun e w' => ∃ x y z, e = .returned (puV (pu zs) x y z) ∧ Got w' w.heap.size (pu zs) x y z ∧ New w w' := by
  have code : ∀ q : Int, pu zs = puZ q → (∀ W, New w W → Calls Try.prog 73 #[.slice a n c] W fun e w' => e = .panicked [{ v := unrV q, recovered := false }] ∧ New W w') →
      Calls Try.prog 61 #[.slice a n c] w fun e w' => ∃ x y z, e = .returned (puV (pu zs) x y z) ∧ Got w' w.heap.size (pu zs) x y z ∧ New w w' := by
    intro q hq hr
    refine (parse_code (.slice a n c) q w ⟨a, n, c, rfl⟩ hr).mono ?_
    rintro e w' ⟨rfl, hnw⟩
    rw [hq]
    exact ⟨_, _, _, rfl, Got.one (OwQ.nil _ _) rfl rfl, hnw⟩
  have soft : ∀ L : List (Int × Int), pu zs = puS L → (∀ W, New w W → Calls Try.prog 73 #[.slice a n c] W fun e W1 => ∃ (a1 : Option Addr) (k c1 : Nat) (ba : Option Addr) (ln lc : Nat), e = .returned (.tuple #[.slice a1 k c1, .slice ba ln lc]) ∧ New W W1 ∧
      Calls Try.prog 74 #[.slice a1 k c1, .slice ba ln lc] W1 fun e W2 => (∃ a m c, e = .panicked [{ v := sfV a m c, recovered := false }] ∧ OwQ W2 W.heap.size (.slice a m c) L) ∧ New W1 W2) →
      Calls Try.prog 61 #[.slice a n c] w fun e w' => ∃ x y z, e = .returned (puV (pu zs) x y z) ∧ Got w' w.heap.size (pu zs) x y z ∧ New w w' := by
    intro L hL hr
    refine (parse_soft (.slice a n c) L w ⟨a, n, c, rfl⟩ hr).mono ?_
    rintro e w' ⟨⟨ta, tm, tc, rfl, hq⟩, hnw⟩
    rw [hL]
    exact ⟨_, _, _, rfl, Got.one (p := puS L) hq rfl rfl, hnw⟩
  rcases Nat.eq_zero_or_pos n with rfl | hpos
  · obtain rfl : zs = [] := List.eq_nil_of_length_eq_zero hn
    exact code 5 rfl (fun W hN => (readGone_empty a c W).mono fun e w' ⟨h1, h2⟩ => ⟨h1, h2 ▸ New.refl _⟩)
  · obtain ⟨b, off, z0, rfl, h0, hc0, l0, u0⟩ := h.at 0 (by omega)
    obtain ⟨k, rfl⟩ : ∃ k : Nat, z0 = (k : Int) := ⟨z0.toNat, by omega⟩
    have hk : k ≤ 255 := by omega
    have hpu := pu_some h0
    by_cases hs : n < 1 + 3 * k
    · rw [if_pos (by omega)] at hpu
      exact code 5 hpu (fun W hN => (readGone_short b off n c k W (by have := (h.new hN) 0 _ h0; obtain ⟨b', off', e', h1', _⟩ := this; simp only [Option.some.injEq, Addr.mk.injEq, and_true] at e'; obtain ⟨rfl, rfl⟩ := e'; simpa using h1') hk hpos hm hs).mono fun e w' ⟨h1, h2⟩ => ⟨h1, h2 ▸ New.refl _⟩)
    · rw [if_neg (by omega)] at hpu
      by_cases hbad : 0 ≤ ixF (gnL zs k)
      · rw [if_pos hbad] at hpu
        exact code 3 hpu (fun W hN => readGone_bad b off n c k zs W (h.new hN) hn hcc h0 hk hm (by omega) (by obtain ⟨i, p, _, hp, hq, _⟩ := ixF_at _ hbad; exact ⟨p, List.mem_of_getElem? hp, hq⟩))
      · rw [if_neg hbad] at hpu
        have hgood : ∀ p ∈ gnL zs k, pf p.1 p.2 = 0 := (ixF_neg _).1 (by omega)
        have hzl : ((zs.drop 1).take (k * 3)).length = k * 3 := by rw [List.length_take, List.length_drop, hn]; omega
        have hgl : (gnL zs k).length = k := rdP_len k _ hzl
        have hgb : ∀ p ∈ gnL zs k, In6 p.1 ∧ In6 p.2 := fun p hp => by
          have := rdP_bd _ (fun z hz => h.lt z (List.mem_of_mem_drop (List.mem_of_mem_take hz))) p hp
          unfold In6; omega
        have gone := fun W (hN : New w W) => readGone_ok b off n c k zs W (h.new hN) hn hcc h0 hk hm (by omega) hgood
        have hll : (zs.drop (1 + 3 * k)).length = n - (1 + 3 * k) := by rw [List.length_drop, hn]
        by_cases hz : n = 1 + 3 * k
        · have hnil : zs.drop (1 + 3 * k) = [] := List.eq_nil_of_length_eq_zero (by omega)
          rw [hnil] at hpu
          by_cases hu : ufU (puU (gnL zs k)) = 0
          · have hpu' : pu zs = puU (gnL zs k) := by rw [hpu]; show (if ufU (puU (gnL zs k)) = 0 then _ else _) = _; rw [if_pos hu]
            refine (parse_good (.slice (some ⟨b, off, none⟩) n c) w ⟨_, n, c, rfl⟩ (fun W x y z => Got W (w.heap.size + 1) (puU (gnL zs k)) x y z) (fun W W' x y z t hg => hg.turn t (fun g hg e => by omega)) false 0 0 0 0 ?_).mono ?_
            · intro W hN hWs
              refine (gone W hN).mono ?_
              rintro e W1 ⟨a1, c1, o2, rfl, hq, -, hn1⟩
              refine ⟨a1, k, c1, _, _, _, rfl, hn1, ?_⟩
              obtain ⟨a2, c2, e2, hps, -⟩ := hq.ps hgb
              obtain ⟨a3, c3, e3, f3, -, -⟩ := hq.form
              simp only [Value.slice.injEq] at e2 e3
              obtain ⟨rfl, -, rfl⟩ := e2
              obtain ⟨rfl, -, rfl⟩ := e3
              rw [hgl] at f3
              rw [show n - (1 + 3 * k) = 0 by omega]
              refine (readUp_none a1 _ k c1 _ (gnL zs k) W1 hps hgl f3 (by omega) hu).mono ?_
              rintro e W2 ⟨rfl, hn2⟩
              exact ⟨⟨_, _, _, _, _, _, _, _, _, rfl, Got.one (p := puU (gnL zs k)) (by have := hq.new hn2; rw [hWs] at this; exact this) rfl rfl⟩, hn2⟩
            · rintro e w' ⟨⟨ga, gn, gc, xa, xn, xc, ra, rn, rc, rfl, hg⟩, hnw⟩
              rw [hpu']
              exact ⟨_, _, _, rfl, hg.low (Nat.le_succ _), hnw⟩
          · have hpu' : pu zs = puS ((gnL zs k).take 8) := by rw [hpu]; show (if ufU (puU (gnL zs k)) = 0 then _ else _) = _; rw [if_neg hu]
            refine soft _ hpu' (fun W hN => (gone W hN).mono ?_)
            rintro e W1 ⟨a1, c1, o2, rfl, hq, -, hn1⟩
            refine ⟨a1, k, c1, _, _, _, rfl, hn1, ?_⟩
            obtain ⟨a2, c2, e2, hps, -⟩ := hq.ps hgb
            obtain ⟨a3, c3, e3, f3, -, -⟩ := hq.form
            simp only [Value.slice.injEq] at e2 e3
            obtain ⟨rfl, -, rfl⟩ := e2
            obtain ⟨rfl, -, rfl⟩ := e3
            rw [hgl] at f3
            rw [show n - (1 + 3 * k) = 0 by omega]
            refine (readUp_many a1 _ k c1 _ (gnL zs k) W1 hps hgl f3 (by omega) hu).mono ?_
            rintro e W2 ⟨⟨ta, tm, tc, rfl, hq2⟩, hn2⟩
            exact ⟨⟨ta, tm, tc, rfl, hq2.low hn1.size⟩, hn2⟩
        · obtain ⟨ls, hls⟩ : ∃ ls, ls = zs.drop (1 + 3 * k) := ⟨_, rfl⟩
          have hbs := h.drop (1 + 3 * k)
          rw [← hls] at hbs hll hpu
          obtain ⟨b1, off1, z1, e1, h1, hc1, l1, u1⟩ := hbs.at 0 (by omega)
          obtain ⟨k1, rfl⟩ : ∃ k1 : Nat, z1 = (k1 : Int) := ⟨z1.toNat, by omega⟩
          have hk1 : k1 ≤ 255 := by omega
          have hrd := rdU_some (gs := gnL zs k) h1
          rw [hrd] at hpu
          have gone1 : ∀ W, New w W → Calls Try.prog 73 #[.slice (some ⟨b, off, none⟩) n c] W fun e W1 => ∃ (a1 : Option Addr) (c1 : Nat), e = .returned (.tuple #[.slice a1 k c1, .slice (some ⟨b, off + (1 + 3 * k), none⟩) (n - (1 + 3 * k)) (c - (1 + 3 * k))]) ∧ OwQ W1 W.heap.size (.slice a1 k c1) (gnL zs k) ∧ PsAt W1 a1 (gnL zs k) ∧ (a1 = none → k = 0 ∧ c1 = 0) ∧ BsAt W1 (some ⟨b, off + (1 + 3 * k), none⟩) ls ∧ New W W1 := by
            intro W hN
            refine (gone W hN).mono ?_
            rintro e W1 ⟨a1, c1, o2, rfl, hq, ho2, hn1⟩
            obtain rfl := ho2 (by omega)
            obtain ⟨a2, c2, e2, hps, -⟩ := hq.ps hgb
            obtain ⟨a3, c3, e3, f3, -, -⟩ := hq.form
            simp only [Value.slice.injEq] at e2 e3
            obtain ⟨rfl, -, rfl⟩ := e2
            obtain ⟨rfl, -, rfl⟩ := e3
            rw [hgl] at f3
            exact ⟨a1, c1, rfl, hq, hps, f3, hbs.new (hN.trans hn1), hn1⟩
          have first : ∀ W, BsAt W (some ⟨b, off + (1 + 3 * k), none⟩) ls → W.cell? ⟨b, off + (1 + 3 * k), none⟩ = some (.int .u8 (k1 : Int)) := by
            intro W hb
            obtain ⟨b', off', e', h1', _⟩ := hb 0 _ h1
            simp only [Option.some.injEq, Addr.mk.injEq, and_true] at e'
            obtain ⟨rfl, rfl⟩ := e'
            simpa using h1'
          have hlp : 0 < n - (1 + 3 * k) := by omega
          by_cases hsh : ls.length < 8 + 2 * k1 + 3 ∨ (ls.length - (8 + 2 * k1)) % 3 ≠ 0
          · rw [if_pos hsh] at hpu
            refine soft _ hpu (fun W hN => (gone1 W hN).mono ?_)
            rintro e W1 ⟨a1, c1, rfl, hq, hps, f3, hb1, hn1⟩
            refine ⟨a1, k, c1, _, _, _, rfl, hn1, ?_⟩
            have fc := first W1 hb1
            have fin : Calls Try.prog 74 #[.slice a1 k c1, .slice (some ⟨b, off + (1 + 3 * k), none⟩) (n - (1 + 3 * k)) (c - (1 + 3 * k))] W1 fun e w' => (∃ a m c, e = .panicked [{ v := sfV a m c, recovered := false }] ∧ OwQ w' W1.heap.size (.slice a m c) ((gnL zs k).take 8)) ∧ New W1 w' := by
              by_cases hs3 : ls.length < 8 + 2 * k1 + 3
              · exact readUp_short a1 k c1 b _ _ _ k1 _ W1 hps hgl f3 (by omega) fc hk1 hlp (by omega) (by omega)
              · exact readUp_rest a1 k c1 b _ _ _ k1 (ls.length - (8 + 2 * k1)) _ W1 hps hgl f3 (by omega) fc hk1 (by omega) (by omega) (by omega) (by omega)
            refine fin.mono ?_
            rintro e W2 ⟨⟨ta, tm, tc, rfl, hq2⟩, hn2⟩
            exact ⟨⟨ta, tm, tc, rfl, hq2.low hn1.size⟩, hn2⟩
          · rw [if_neg hsh] at hpu
            have hq3 : n - (1 + 3 * k) = 8 + 2 * k1 + (ls.length - (8 + 2 * k1)) / 3 * 3 := by omega
            have hq1 : 1 ≤ (ls.length - (8 + 2 * k1)) / 3 := by omega
            by_cases hu : ufU (puA (gnL zs k) k1 ls) = 0
            · rw [if_pos hu] at hpu
              refine (parse_good (.slice (some ⟨b, off, none⟩) n c) w ⟨_, n, c, rfl⟩ (fun W x y z => Got W (w.heap.size + 1) (puA (gnL zs k) k1 ls) x y z) (fun W W' x y z t hg => hg.turn t (fun g hg e => by omega)) true (puA (gnL zs k) k1 ls).o (puA (gnL zs k) k1 ls).nx (puA (gnL zs k) k1 ls).md (puA (gnL zs k) k1 ls).lc ?_).mono ?_
              · intro W hN hWs
                refine (gone1 W hN).mono ?_
                rintro e W1 ⟨a1, c1, rfl, hq, hps, f3, hb1, hn1⟩
                refine ⟨a1, k, c1, _, _, _, rfl, hn1, ?_⟩
                refine (readUp_good a1 k c1 b _ _ _ k1 _ (gnL zs k) ls W1 hps hgl f3 (by omega) hb1 hll (by omega) h1 hk1 (by omega) hq3 hq1 hu).mono ?_
                rintro e W2 ⟨xa, xn, xc, ra, rn, rc, rfl, ⟨mid, hmid, hM, hab, hQ⟩, hn2⟩
                have hs1 := hn1.size
                refine ⟨⟨_, _, _, _, _, _, _, _, _, rfl, ⟨(hq.new hn2).low (by omega), hM.low (by omega), hQ.low (by omega), ?_, ?_, ?_⟩⟩, hn2⟩
                · intro bb e1 e2
                  have := hq.blk bb e1
                  have := hM.blk bb e2
                  omega
                · intro bb e1 e2
                  have := hq.blk bb e1
                  have := hQ.blk bb e2
                  omega
                · intro bb e1 e2
                  have := hQ.blk bb e2
                  cases xa with
                  | none => cases e1
                  | some x =>
                    obtain rfl := Option.some.inj e1
                    have := hab x rfl
                    omega
              · rintro e w' ⟨⟨ga, gn, gc, xa, xn, xc, ra, rn, rc, rfl, hg⟩, hnw⟩
                rw [hpu]
                exact ⟨_, _, _, rfl, hg.low (Nat.le_succ _), hnw⟩
            · rw [if_neg hu] at hpu
              refine soft _ hpu (fun W hN => (gone1 W hN).mono ?_)
              rintro e W1 ⟨a1, c1, rfl, hq, hps, f3, hb1, hn1⟩
              refine ⟨a1, k, c1, _, _, _, rfl, hn1, ?_⟩
              refine (readUp_bad a1 k c1 b _ _ _ k1 _ (gnL zs k) ls W1 hps hgl f3 (by omega) hb1 hll (by omega) h1 hk1 (by omega) hq3 hq1 hu).mono ?_
              rintro e W2 ⟨⟨ta, tm, tc, rfl, hq2⟩, hn2⟩
              exact ⟨⟨ta, tm, tc, rfl, hq2.low hn1.size⟩, hn2⟩

end Go.Proofs.Ytljkcijakdhdiaa
