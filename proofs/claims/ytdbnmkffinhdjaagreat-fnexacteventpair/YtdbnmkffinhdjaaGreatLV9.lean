/- Lemmas and contracts of one law. -/
import Derived.Test.YtdbnmkffinhdjaaGreatLV8
namespace Go.Proofs.YtdbnmkffinhdjaaGreat
open Go.RowKit Go.Sort
set_option linter.unusedVariables false
set_option linter.unusedSimpArgs false
set_option maxRecDepth 100000
set_option maxHeartbeats 25600000

/-- An entry of zeros. -/
def Zr (ee ki pe : Int) (m : Nat) : Prop := ee = 0 ∧ ki = 0 ∧ pe = 0 ∧ m = 0
/-- What fits ahead of a place. -/
def Fp (kd me at1 pr : Int) : Prop := (kd = 2 → pr = 0) ∧ (kd ≠ 2 → ((at1 = 0 → pr = 0) ∧ (pr = 0 → at1 = 0)) ∧ pr ≤ me)
/-- The fault of a mail's entry. -/
def efF (me pr ee ki pe : Int) (m : Nat) : Int := if enF ee ki pe m ≠ 0 then enF ee ki pe m else if me < ee ∨ ee < pr then 1 else 0
/-- The fault of a mail to the node id. -/
def mlF (id kd tgt me at1 pr : Int) (has : Bool) (ee ki pe : Int) (m : Nat) : Int :=
  if ¬ ((kd = 1 ∨ kd = 2) ∧ tgt = id) then 1 else if ¬ ((1 ≤ me ∧ me ≤ 1000) ∧ (0 ≤ at1 ∧ at1 ≤ 100) ∧ 0 ≤ pr ∧ pr ≤ 1000) then 3
  else if ¬ ((kd = 2 → pr = 0) ∧ (kd ≠ 2 → ((at1 = 0 → pr = 0) ∧ (pr = 0 → at1 = 0)) ∧ pr ≤ me)) then 1
  else if kd = 1 ∧ has = true then efF me pr ee ki pe m else if has = true ∨ ¬ (ee = 0 ∧ ki = 0 ∧ pe = 0 ∧ m = 0) then 1 else 0

theorem nz_yes (a : Option Addr) (c1 : Nat) (w : World) : Calls Tryz.prog 158 #[.agg #[.int .i64 0, .int .i64 0, .int .i64 0, .slice a 0 c1]] w fun e w' => e = .returned (.bool true) ∧ New w w' := by
  go_enter Tryz.func158, Tryz.ntmps158
  go_wp2
  go_ret
  exact ⟨rfl, (New.refl w).alloc _⟩
theorem nz_no (ee ki pe : Int) (a : Option Addr) (m c1 : Nat) (w : World) (hm : m ≤ 1048576) (h : ¬ Zr ee ki pe m) : Calls Tryz.prog 158 #[.agg #[.int .i64 ee, .int .i64 ki, .int .i64 pe, .slice a m c1]] w fun e w' => e = .returned (.bool false) ∧ New w w' := by
  by_cases h1 : ee = 0
  case neg =>
    have g : (ee == 0) = false := by simp [h1]
    clear h
    go_enter Tryz.func158, Tryz.ntmps158
    go_wp2
    go_ret
    exact ⟨rfl, (New.refl w).alloc _⟩
  by_cases h2 : ki = 0
  case neg =>
    have g : (ki == 0) = false := by simp [h2]
    clear h
    subst h1
    go_enter Tryz.func158, Tryz.ntmps158
    go_wp2
    go_ret
    exact ⟨rfl, (New.refl w).alloc _⟩
  by_cases h3 : pe = 0
  case neg =>
    have g : (pe == 0) = false := by simp [h3]
    clear h
    subst h1 h2
    go_enter Tryz.func158, Tryz.ntmps158
    go_wp2
    go_ret
    exact ⟨rfl, (New.refl w).alloc _⟩
  have h4 : ¬ m = 0 := fun e => h ⟨h1, h2, h3, e⟩
  have g : ((m : Int) == 0) = false := by simp [h4]
  clear h
  subst h1 h2 h3
  go_enter Tryz.func158, Tryz.ntmps158
  go_wp2
  go_ret
  exact ⟨rfl, (New.refl w).alloc _⟩

theorem fp2y (B : Nat) (tgt me at1 : Int) (has : Bool) (ee ki pe : Int) (a : Option Addr) (m c1 : Nat) (w : World) (hb : Blk w B 120 #[.int .i64 2, .int .i64 tgt, .int .i64 me, .int .i64 at1, .int .i64 0, .bool has, .int .i64 ee, .int .i64 ki, .int .i64 pe, .slice a m c1]) :
    Calls Tryz.prog 156 #[.pointer (some ⟨B, 0, none⟩)] w fun e w' => e = .returned (.bool true) ∧ New w w' := by
  have cB := hb.cells
  have CB := blk_regrown hb
  go_enter Tryz.func156, Tryz.ntmps156
  go_wp2
  go_ret
  exact ⟨rfl, New.refl _⟩

theorem fp2n (B : Nat) (tgt me at1 pr : Int) (has : Bool) (ee ki pe : Int) (a : Option Addr) (m c1 : Nat) (w : World) (hb : Blk w B 120 #[.int .i64 2, .int .i64 tgt, .int .i64 me, .int .i64 at1, .int .i64 pr, .bool has, .int .i64 ee, .int .i64 ki, .int .i64 pe, .slice a m c1]) (hpr : ¬ pr = 0) :
    Calls Tryz.prog 156 #[.pointer (some ⟨B, 0, none⟩)] w fun e w' => e = .returned (.bool false) ∧ New w w' := by
  have cB := hb.cells
  have CB := blk_regrown hb
  have gpr : (pr == 0) = false := by simp [hpr]
  go_enter Tryz.func156, Tryz.ntmps156
  go_wp2
  go_ret
  exact ⟨rfl, New.refl _⟩

theorem fp1a (B : Nat) (kd tgt me : Int) (has : Bool) (ee ki pe : Int) (a : Option Addr) (m c1 : Nat) (w : World) (hb : Blk w B 120 #[.int .i64 kd, .int .i64 tgt, .int .i64 me, .int .i64 0, .int .i64 0, .bool has, .int .i64 ee, .int .i64 ki, .int .i64 pe, .slice a m c1]) (hkd : ¬ kd = 2) (hme : 0 ≤ me) :
    Calls Tryz.prog 156 #[.pointer (some ⟨B, 0, none⟩)] w fun e w' => e = .returned (.bool true) ∧ New w w' := by
  have cB := hb.cells
  have CB := blk_regrown hb
  have gkd : (kd == 2) = false := by simp [hkd]
  go_enter Tryz.func156, Tryz.ntmps156
  go_wp2
  refine wp_region_quiet_below (by kernel_rfl) (by kernel_rfl) ?_
  repeat (go_big_quiet_step (fail))
  refine wpQuiet_nil ?_
  rintro w3 hn3
  replace hn3 := new_of_regrown hn3
  go_wp2
  go_ret
  exact ⟨rfl, hn3⟩

theorem fp1b (B : Nat) (kd tgt me at1 pr : Int) (has : Bool) (ee ki pe : Int) (a : Option Addr) (m c1 : Nat) (w : World) (hb : Blk w B 120 #[.int .i64 kd, .int .i64 tgt, .int .i64 me, .int .i64 at1, .int .i64 pr, .bool has, .int .i64 ee, .int .i64 ki, .int .i64 pe, .slice a m c1]) (hkd : ¬ kd = 2) (hat1 : ¬ at1 = 0) (hpr : ¬ pr = 0) (hle : pr ≤ me) :
    Calls Tryz.prog 156 #[.pointer (some ⟨B, 0, none⟩)] w fun e w' => e = .returned (.bool true) ∧ New w w' := by
  have cB := hb.cells
  have CB := blk_regrown hb
  have gkd : (kd == 2) = false := by simp [hkd]
  have gat1 : (at1 == 0) = false := by simp [hat1]
  have gpr : (pr == 0) = false := by simp [hpr]
  go_enter Tryz.func156, Tryz.ntmps156
  go_wp2
  refine wp_region_quiet_below (by kernel_rfl) (by kernel_rfl) ?_
  repeat (go_big_quiet_step (fail))
  refine wpQuiet_nil ?_
  rintro w3 hn3
  replace hn3 := new_of_regrown hn3
  go_wp2
  go_ret
  exact ⟨rfl, hn3⟩

theorem fp1c (B : Nat) (kd tgt me pr : Int) (has : Bool) (ee ki pe : Int) (a : Option Addr) (m c1 : Nat) (w : World) (hb : Blk w B 120 #[.int .i64 kd, .int .i64 tgt, .int .i64 me, .int .i64 0, .int .i64 pr, .bool has, .int .i64 ee, .int .i64 ki, .int .i64 pe, .slice a m c1]) (hkd : ¬ kd = 2) (hpr : ¬ pr = 0) :
    Calls Tryz.prog 156 #[.pointer (some ⟨B, 0, none⟩)] w fun e w' => e = .returned (.bool false) ∧ New w w' := by
  have cB := hb.cells
  have CB := blk_regrown hb
  have gkd : (kd == 2) = false := by simp [hkd]
  have gpr : (pr == 0) = false := by simp [hpr]
  go_enter Tryz.func156, Tryz.ntmps156
  go_wp2
  refine wp_region_quiet_below (by kernel_rfl) (by kernel_rfl) ?_
  repeat (go_big_quiet_step (fail))
  refine wpQuiet_nil ?_
  rintro w3 hn3
  replace hn3 := new_of_regrown hn3
  go_wp2
  go_ret
  exact ⟨rfl, hn3⟩

theorem fp1d (B : Nat) (kd tgt me at1 : Int) (has : Bool) (ee ki pe : Int) (a : Option Addr) (m c1 : Nat) (w : World) (hb : Blk w B 120 #[.int .i64 kd, .int .i64 tgt, .int .i64 me, .int .i64 at1, .int .i64 0, .bool has, .int .i64 ee, .int .i64 ki, .int .i64 pe, .slice a m c1]) (hkd : ¬ kd = 2) (hat1 : ¬ at1 = 0) :
    Calls Tryz.prog 156 #[.pointer (some ⟨B, 0, none⟩)] w fun e w' => e = .returned (.bool false) ∧ New w w' := by
  have cB := hb.cells
  have CB := blk_regrown hb
  have gkd : (kd == 2) = false := by simp [hkd]
  have gat1 : (at1 == 0) = false := by simp [hat1]
  go_enter Tryz.func156, Tryz.ntmps156
  go_wp2
  refine wp_region_quiet_below (by kernel_rfl) (by kernel_rfl) ?_
  repeat (go_big_quiet_step (fail))
  refine wpQuiet_nil ?_
  rintro w3 hn3
  replace hn3 := new_of_regrown hn3
  go_wp2
  go_ret
  exact ⟨rfl, hn3⟩

theorem fp1e (B : Nat) (kd tgt me at1 pr : Int) (has : Bool) (ee ki pe : Int) (a : Option Addr) (m c1 : Nat) (w : World) (hb : Blk w B 120 #[.int .i64 kd, .int .i64 tgt, .int .i64 me, .int .i64 at1, .int .i64 pr, .bool has, .int .i64 ee, .int .i64 ki, .int .i64 pe, .slice a m c1]) (hkd : ¬ kd = 2) (hat1 : ¬ at1 = 0) (hpr : ¬ pr = 0) (hle : ¬ pr ≤ me) :
    Calls Tryz.prog 156 #[.pointer (some ⟨B, 0, none⟩)] w fun e w' => e = .returned (.bool false) ∧ New w w' := by
  have cB := hb.cells
  have CB := blk_regrown hb
  have gkd : (kd == 2) = false := by simp [hkd]
  have gat1 : (at1 == 0) = false := by simp [hat1]
  have gpr : (pr == 0) = false := by simp [hpr]
  have gle : decide (pr ≤ me) = false := decide_eq_false hle
  go_enter Tryz.func156, Tryz.ntmps156
  go_wp2
  refine wp_region_quiet_below (by kernel_rfl) (by kernel_rfl) ?_
  repeat (go_big_quiet_step (fail))
  refine wpQuiet_nil ?_
  rintro w3 hn3
  replace hn3 := new_of_regrown hn3
  go_wp2
  go_ret
  exact ⟨rfl, hn3⟩

theorem fp1z (B : Nat) (kd tgt me : Int) (has : Bool) (ee ki pe : Int) (a : Option Addr) (m c1 : Nat) (w : World) (hb : Blk w B 120 #[.int .i64 kd, .int .i64 tgt, .int .i64 me, .int .i64 0, .int .i64 0, .bool has, .int .i64 ee, .int .i64 ki, .int .i64 pe, .slice a m c1]) (hkd : ¬ kd = 2) (hle : ¬ (0 : Int) ≤ me) :
    Calls Tryz.prog 156 #[.pointer (some ⟨B, 0, none⟩)] w fun e w' => e = .returned (.bool false) ∧ New w w' := by
  have cB := hb.cells
  have CB := blk_regrown hb
  have gkd : (kd == 2) = false := by simp [hkd]
  have gle : decide ((0 : Int) ≤ me) = false := decide_eq_false hle
  go_enter Tryz.func156, Tryz.ntmps156
  go_wp2
  refine wp_region_quiet_below (by kernel_rfl) (by kernel_rfl) ?_
  repeat (go_big_quiet_step (fail))
  refine wpQuiet_nil ?_
  rintro w3 hn3
  replace hn3 := new_of_regrown hn3
  go_wp2
  go_ret
  exact ⟨rfl, hn3⟩

theorem fits_y (B : Nat) (kd tgt me at1 pr : Int) (has : Bool) (ee ki pe : Int) (a : Option Addr) (m c1 : Nat) (w : World) (hb : Blk w B 120 #[.int .i64 kd, .int .i64 tgt, .int .i64 me, .int .i64 at1, .int .i64 pr, .bool has, .int .i64 ee, .int .i64 ki, .int .i64 pe, .slice a m c1]) (h : Fp kd me at1 pr) (hme : 0 ≤ me) :
    Calls Tryz.prog 156 #[.pointer (some ⟨B, 0, none⟩)] w fun e w' => e = .returned (.bool true) ∧ New w w' := by
  by_cases hk : kd = 2
  · subst hk
    obtain rfl := h.1 rfl
    exact fp2y B tgt me at1 has ee ki pe a m c1 w hb
  · obtain ⟨⟨h1, h2⟩, h3⟩ := h.2 hk
    by_cases ha : at1 = 0
    · obtain rfl := h1 ha
      subst ha
      exact fp1a B kd tgt me has ee ki pe a m c1 w hb hk hme
    · exact fp1b B kd tgt me at1 pr has ee ki pe a m c1 w hb hk ha (fun e => ha (h2 e)) h3
theorem fits_n (B : Nat) (kd tgt me at1 pr : Int) (has : Bool) (ee ki pe : Int) (a : Option Addr) (m c1 : Nat) (w : World) (hb : Blk w B 120 #[.int .i64 kd, .int .i64 tgt, .int .i64 me, .int .i64 at1, .int .i64 pr, .bool has, .int .i64 ee, .int .i64 ki, .int .i64 pe, .slice a m c1]) (h : ¬ Fp kd me at1 pr) :
    Calls Tryz.prog 156 #[.pointer (some ⟨B, 0, none⟩)] w fun e w' => e = .returned (.bool false) ∧ New w w' := by
  by_cases hk : kd = 2
  · subst hk
    exact fp2n B tgt me at1 pr has ee ki pe a m c1 w hb (fun e => h ⟨fun _ => e, fun f => absurd rfl f⟩)
  · by_cases ha : at1 = 0
    · subst ha
      by_cases hp : pr = 0
      · subst hp
        have hle : ¬ (0 : Int) ≤ me := fun e => h ⟨fun f => absurd f hk, fun _ => ⟨⟨fun _ => rfl, fun _ => rfl⟩, e⟩⟩
        exact fp1z B kd tgt me has ee ki pe a m c1 w hb hk hle
      · exact fp1c B kd tgt me pr has ee ki pe a m c1 w hb hk hp
    · by_cases hp : pr = 0
      · subst hp
        exact fp1d B kd tgt me at1 has ee ki pe a m c1 w hb hk ha
      · exact fp1e B kd tgt me at1 pr has ee ki pe a m c1 w hb hk ha hp (fun e => h ⟨fun f => absurd f hk, fun _ => ⟨⟨fun f => absurd f ha, fun f => absurd f hp⟩, e⟩⟩)

theorem implENv (v ee ki pe : Int) (a : Option Addr) (m c1 : Nat) (w : World) (hm : m ≤ 1048576) (hv : enF ee ki pe m = v) : Calls Tryz.prog 146 #[.agg #[.int .i64 ee, .int .i64 ki, .int .i64 pe, .slice a m c1]] w fun e w' => e = .returned (.int .i64 v) ∧ New w w' := by
  rw [← hv]; exact implEN ee ki pe a m c1 w hm
theorem specENv (v ee ki pe : Int) (a : Option Addr) (m c1 : Nat) (w : World) (hm : m ≤ 1048576) (hv : enF ee ki pe m = v) : Calls Tryz.prog 105 #[.agg #[.int .i64 ee, .int .i64 ki, .int .i64 pe, .slice a m c1]] w fun e w' => e = .returned (.int .i64 v) ∧ New w w' := by
  rw [← hv]; exact specEN ee ki pe a m c1 w hm

theorem ef1 (B : Nat) (kd tgt me at1 pr : Int) (has : Bool) (ee ki pe : Int) (a : Option Addr) (m c1 : Nat) (w : World) (hb : Blk w B 120 #[.int .i64 kd, .int .i64 tgt, .int .i64 me, .int .i64 at1, .int .i64 pr, .bool has, .int .i64 ee, .int .i64 ki, .int .i64 pe, .slice a m c1]) (hm : m ≤ 1048576) (v : Int) (he : enF ee ki pe m = v) (hv : ¬ v = 0) :
    Calls Tryz.prog 157 #[.pointer (some ⟨B, 0, none⟩)] w fun e w' => e = .returned (.int .i64 v) ∧ New w w' := by
  have cB := hb.cells
  go_enter Tryz.func157, Tryz.ntmps157
  go_wp2_with fail
  refine (implENv v ee ki pe a m c1 _ hm he).mono ?_
  rintro e w1 ⟨rfl, hn1⟩
  go_wp2
  go_ret
  exact ⟨rfl, hn1⟩

theorem ef2 (B : Nat) (kd tgt me at1 pr : Int) (has : Bool) (ee ki pe : Int) (a : Option Addr) (m c1 : Nat) (w : World) (hb : Blk w B 120 #[.int .i64 kd, .int .i64 tgt, .int .i64 me, .int .i64 at1, .int .i64 pr, .bool has, .int .i64 ee, .int .i64 ki, .int .i64 pe, .slice a m c1]) (hm : m ≤ 1048576) (he : enF ee ki pe m = 0) (h1 : me < ee) :
    Calls Tryz.prog 157 #[.pointer (some ⟨B, 0, none⟩)] w fun e w' => e = .returned (.int .i64 1) ∧ New w w' := by
  have cB := hb.cells
  have g1 : decide (me < ee) = true := decide_eq_true h1
  go_enter Tryz.func157, Tryz.ntmps157
  go_wp2_with fail
  refine (implENv 0 ee ki pe a m c1 _ hm he).mono ?_
  rintro e w1 ⟨rfl, hn1⟩
  have CB := blk_regrown (hb.new hn1)
  clear cB
  go_wp2
  refine wp_region_quiet_below (by kernel_rfl) (by kernel_rfl) ?_
  repeat (go_big_quiet_step (fail))
  refine wpQuiet_nil ?_
  rintro w3 hn3
  replace hn3 := new_of_regrown hn3
  go_wp2
  go_ret
  exact ⟨rfl, hn1.trans hn3⟩

theorem ef3 (B : Nat) (kd tgt me at1 pr : Int) (has : Bool) (ee ki pe : Int) (a : Option Addr) (m c1 : Nat) (w : World) (hb : Blk w B 120 #[.int .i64 kd, .int .i64 tgt, .int .i64 me, .int .i64 at1, .int .i64 pr, .bool has, .int .i64 ee, .int .i64 ki, .int .i64 pe, .slice a m c1]) (hm : m ≤ 1048576) (he : enF ee ki pe m = 0) (h1 : ¬ me < ee) (h2 : ee < pr) :
    Calls Tryz.prog 157 #[.pointer (some ⟨B, 0, none⟩)] w fun e w' => e = .returned (.int .i64 1) ∧ New w w' := by
  have cB := hb.cells
  have g1 : decide (me < ee) = false := decide_eq_false h1
  have g2 : decide (ee < pr) = true := decide_eq_true h2
  go_enter Tryz.func157, Tryz.ntmps157
  go_wp2_with fail
  refine (implENv 0 ee ki pe a m c1 _ hm he).mono ?_
  rintro e w1 ⟨rfl, hn1⟩
  have CB := blk_regrown (hb.new hn1)
  clear cB
  go_wp2
  refine wp_region_quiet_below (by kernel_rfl) (by kernel_rfl) ?_
  repeat (go_big_quiet_step (fail))
  refine wpQuiet_nil ?_
  rintro w3 hn3
  replace hn3 := new_of_regrown hn3
  go_wp2
  go_ret
  exact ⟨rfl, hn1.trans hn3⟩

theorem ef4 (B : Nat) (kd tgt me at1 pr : Int) (has : Bool) (ee ki pe : Int) (a : Option Addr) (m c1 : Nat) (w : World) (hb : Blk w B 120 #[.int .i64 kd, .int .i64 tgt, .int .i64 me, .int .i64 at1, .int .i64 pr, .bool has, .int .i64 ee, .int .i64 ki, .int .i64 pe, .slice a m c1]) (hm : m ≤ 1048576) (he : enF ee ki pe m = 0) (h1 : ¬ me < ee) (h2 : ¬ ee < pr) :
    Calls Tryz.prog 157 #[.pointer (some ⟨B, 0, none⟩)] w fun e w' => e = .returned (.int .i64 0) ∧ New w w' := by
  have cB := hb.cells
  have g1 : decide (me < ee) = false := decide_eq_false h1
  have g2 : decide (ee < pr) = false := decide_eq_false h2
  go_enter Tryz.func157, Tryz.ntmps157
  go_wp2_with fail
  refine (implENv 0 ee ki pe a m c1 _ hm he).mono ?_
  rintro e w1 ⟨rfl, hn1⟩
  have CB := blk_regrown (hb.new hn1)
  clear cB
  go_wp2
  refine wp_region_quiet_below (by kernel_rfl) (by kernel_rfl) ?_
  repeat (go_big_quiet_step (fail))
  refine wpQuiet_nil ?_
  rintro w3 hn3
  replace hn3 := new_of_regrown hn3
  go_wp2
  go_ret
  exact ⟨rfl, hn1.trans hn3⟩

theorem eF_any (B : Nat) (kd tgt me at1 pr : Int) (has : Bool) (ee ki pe : Int) (a : Option Addr) (m c1 : Nat) (w : World) (hb : Blk w B 120 #[.int .i64 kd, .int .i64 tgt, .int .i64 me, .int .i64 at1, .int .i64 pr, .bool has, .int .i64 ee, .int .i64 ki, .int .i64 pe, .slice a m c1]) (hm : m ≤ 1048576) :
    Calls Tryz.prog 157 #[.pointer (some ⟨B, 0, none⟩)] w fun e w' => e = .returned (.int .i64 (efF me pr ee ki pe m)) ∧ New w w' := by
  unfold efF
  by_cases he : enF ee ki pe m = 0
  · rw [if_neg (fun k => k he)]
    by_cases h1 : me < ee
    · rw [if_pos (.inl h1)]; exact ef2 B kd tgt me at1 pr has ee ki pe a m c1 w hb hm he h1
    · by_cases h2 : ee < pr
      · rw [if_pos (.inr h2)]; exact ef3 B kd tgt me at1 pr has ee ki pe a m c1 w hb hm he h1 h2
      · rw [if_neg (by omega)]; exact ef4 B kd tgt me at1 pr has ee ki pe a m c1 w hb hm he h1 h2
  · rw [if_pos he]; exact ef1 B kd tgt me at1 pr has ee ki pe a m c1 w hb hm _ rfl he

theorem ff1 (id : Int) (B : Nat) (kd tgt me at1 pr : Int) (has : Bool) (ee ki pe : Int) (a : Option Addr) (m c1 : Nat) (w : World) (hb : Blk w B 120 #[.int .i64 kd, .int .i64 tgt, .int .i64 me, .int .i64 at1, .int .i64 pr, .bool has, .int .i64 ee, .int .i64 ki, .int .i64 pe, .slice a m c1]) (hm : m ≤ 1048576) (hkd1 : ¬ kd = 1) (hkd2 : ¬ kd = 2) :
    Calls Tryz.prog 130 #[.pointer (some ⟨B, 0, none⟩), .int .i64 id] w fun e w' => e = .returned (.int .i64 1) ∧ New w w' := by
  have cB := hb.cells
  have gkd1 : (kd == 1) = false := by simp [hkd1]
  have kkd1 : (kd != 1) = true := by simp [hkd1]
  have gkd2 : (kd == 2) = false := by simp [hkd2]
  have kkd2 : (kd != 2) = true := by simp [hkd2]
  go_enter Tryz.func130, Tryz.ntmps130
  go_wp2
  go_ret
  exact ⟨rfl, New.refl _⟩

theorem ff21 (id : Int) (B : Nat) (tgt me at1 pr : Int) (has : Bool) (ee ki pe : Int) (a : Option Addr) (m c1 : Nat) (w : World) (hb : Blk w B 120 #[.int .i64 1, .int .i64 tgt, .int .i64 me, .int .i64 at1, .int .i64 pr, .bool has, .int .i64 ee, .int .i64 ki, .int .i64 pe, .slice a m c1]) (hm : m ≤ 1048576) (ht : ¬ tgt = id) :
    Calls Tryz.prog 130 #[.pointer (some ⟨B, 0, none⟩), .int .i64 id] w fun e w' => e = .returned (.int .i64 1) ∧ New w w' := by
  have cB := hb.cells
  have kt : (tgt != id) = true := by simp [ht]
  go_enter Tryz.func130, Tryz.ntmps130
  go_wp2
  go_ret
  exact ⟨rfl, New.refl _⟩

theorem ff31 (id : Int) (B : Nat) (me at1 pr : Int) (has : Bool) (ee ki pe : Int) (a : Option Addr) (m c1 : Nat) (w : World) (hb : Blk w B 120 #[.int .i64 1, .int .i64 id, .int .i64 me, .int .i64 at1, .int .i64 pr, .bool has, .int .i64 ee, .int .i64 ki, .int .i64 pe, .slice a m c1]) (hm : m ≤ 1048576) (hme : me < 1 ∨ 1000 < me) :
    Calls Tryz.prog 130 #[.pointer (some ⟨B, 0, none⟩), .int .i64 id] w fun e w' => e = .returned (.int .i64 3) ∧ New w w' := by
  have cB := hb.cells
  have kt : (id != id) = false := by simp
  go_enter Tryz.func130, Tryz.ntmps130
  go_wp2_with fail
  refine (epoch_no me _ hme).mono ?_
  rintro e w1 ⟨rfl, hwz⟩
  obtain rfl := hwz.symm
  go_wp2
  go_ret
  exact ⟨rfl, New.refl _⟩

theorem ff41 (id : Int) (B : Nat) (me at1 pr : Int) (has : Bool) (ee ki pe : Int) (a : Option Addr) (m c1 : Nat) (w : World) (hb : Blk w B 120 #[.int .i64 1, .int .i64 id, .int .i64 me, .int .i64 at1, .int .i64 pr, .bool has, .int .i64 ee, .int .i64 ki, .int .i64 pe, .slice a m c1]) (hm : m ≤ 1048576) (hme : 1 ≤ me ∧ me ≤ 1000) (h1 : at1 < 0) :
    Calls Tryz.prog 130 #[.pointer (some ⟨B, 0, none⟩), .int .i64 id] w fun e w' => e = .returned (.int .i64 3) ∧ New w w' := by
  have cB := hb.cells
  have kt : (id != id) = false := by simp
  go_enter Tryz.func130, Tryz.ntmps130
  go_wp2_with fail
  refine (epoch_yes me _ hme).mono ?_
  rintro e w1 ⟨rfl, hwz⟩
  obtain rfl := hwz.symm
  go_wp2
  go_ret
  exact ⟨rfl, New.refl _⟩

theorem ff51 (id : Int) (B : Nat) (me at1 pr : Int) (has : Bool) (ee ki pe : Int) (a : Option Addr) (m c1 : Nat) (w : World) (hb : Blk w B 120 #[.int .i64 1, .int .i64 id, .int .i64 me, .int .i64 at1, .int .i64 pr, .bool has, .int .i64 ee, .int .i64 ki, .int .i64 pe, .slice a m c1]) (hm : m ≤ 1048576) (hme : 1 ≤ me ∧ me ≤ 1000) (h1 : 0 ≤ at1) (h2 : 100 < at1) :
    Calls Tryz.prog 130 #[.pointer (some ⟨B, 0, none⟩), .int .i64 id] w fun e w' => e = .returned (.int .i64 3) ∧ New w w' := by
  have cB := hb.cells
  have kt : (id != id) = false := by simp
  go_enter Tryz.func130, Tryz.ntmps130
  go_wp2_with fail
  refine (epoch_yes me _ hme).mono ?_
  rintro e w1 ⟨rfl, hwz⟩
  obtain rfl := hwz.symm
  go_wp2
  go_ret
  exact ⟨rfl, New.refl _⟩

theorem ff61 (id : Int) (B : Nat) (me at1 pr : Int) (has : Bool) (ee ki pe : Int) (a : Option Addr) (m c1 : Nat) (w : World) (hb : Blk w B 120 #[.int .i64 1, .int .i64 id, .int .i64 me, .int .i64 at1, .int .i64 pr, .bool has, .int .i64 ee, .int .i64 ki, .int .i64 pe, .slice a m c1]) (hm : m ≤ 1048576) (hme : 1 ≤ me ∧ me ≤ 1000) (h1 : 0 ≤ at1) (h2 : at1 ≤ 100) (h3 : pr < 0) :
    Calls Tryz.prog 130 #[.pointer (some ⟨B, 0, none⟩), .int .i64 id] w fun e w' => e = .returned (.int .i64 3) ∧ New w w' := by
  have cB := hb.cells
  have kt : (id != id) = false := by simp
  go_enter Tryz.func130, Tryz.ntmps130
  go_wp2_with fail
  refine (epoch_yes me _ hme).mono ?_
  rintro e w1 ⟨rfl, hwz⟩
  obtain rfl := hwz.symm
  go_wp2
  go_ret
  exact ⟨rfl, New.refl _⟩

theorem ff71 (id : Int) (B : Nat) (me at1 pr : Int) (has : Bool) (ee ki pe : Int) (a : Option Addr) (m c1 : Nat) (w : World) (hb : Blk w B 120 #[.int .i64 1, .int .i64 id, .int .i64 me, .int .i64 at1, .int .i64 pr, .bool has, .int .i64 ee, .int .i64 ki, .int .i64 pe, .slice a m c1]) (hm : m ≤ 1048576) (hme : 1 ≤ me ∧ me ≤ 1000) (h1 : 0 ≤ at1) (h2 : at1 ≤ 100) (h3 : 0 ≤ pr) (h4 : 1000 < pr) :
    Calls Tryz.prog 130 #[.pointer (some ⟨B, 0, none⟩), .int .i64 id] w fun e w' => e = .returned (.int .i64 3) ∧ New w w' := by
  have cB := hb.cells
  have kt : (id != id) = false := by simp
  go_enter Tryz.func130, Tryz.ntmps130
  go_wp2_with fail
  refine (epoch_yes me _ hme).mono ?_
  rintro e w1 ⟨rfl, hwz⟩
  obtain rfl := hwz.symm
  go_wp2
  go_ret
  exact ⟨rfl, New.refl _⟩

theorem ff81 (id : Int) (B : Nat) (me at1 pr : Int) (has : Bool) (ee ki pe : Int) (a : Option Addr) (m c1 : Nat) (w : World) (hb : Blk w B 120 #[.int .i64 1, .int .i64 id, .int .i64 me, .int .i64 at1, .int .i64 pr, .bool has, .int .i64 ee, .int .i64 ki, .int .i64 pe, .slice a m c1]) (hm : m ≤ 1048576) (hme : 1 ≤ me ∧ me ≤ 1000) (h1 : 0 ≤ at1) (h2 : at1 ≤ 100) (h3 : 0 ≤ pr) (h4 : pr ≤ 1000) (hf : ¬ Fp 1 me at1 pr) :
    Calls Tryz.prog 130 #[.pointer (some ⟨B, 0, none⟩), .int .i64 id] w fun e w' => e = .returned (.int .i64 1) ∧ New w w' := by
  have cB := hb.cells
  have kt : (id != id) = false := by simp
  go_enter Tryz.func130, Tryz.ntmps130
  go_wp2_with fail
  refine (epoch_yes me _ hme).mono ?_
  rintro e w1 ⟨rfl, hwz⟩
  obtain rfl := hwz.symm
  go_wp2_with fail
  refine (fits_n B 1 id me at1 pr has ee ki pe a m c1 _ hb hf).mono ?_
  rintro e w2 ⟨rfl, hn2⟩
  go_wp2
  go_ret
  exact ⟨rfl, hn2⟩

theorem ff91 (id : Int) (B : Nat) (me at1 pr : Int) (ee ki pe : Int) (a : Option Addr) (m c1 : Nat) (w : World) (hb : Blk w B 120 #[.int .i64 1, .int .i64 id, .int .i64 me, .int .i64 at1, .int .i64 pr, .bool true, .int .i64 ee, .int .i64 ki, .int .i64 pe, .slice a m c1]) (hm : m ≤ 1048576) (hme : 1 ≤ me ∧ me ≤ 1000) (h1 : 0 ≤ at1) (h2 : at1 ≤ 100) (h3 : 0 ≤ pr) (h4 : pr ≤ 1000) (hf : Fp 1 me at1 pr) (v : Int) (hv : efF me pr ee ki pe m = v) :
    Calls Tryz.prog 130 #[.pointer (some ⟨B, 0, none⟩), .int .i64 id] w fun e w' => e = .returned (.int .i64 v) ∧ New w w' := by
  have cB := hb.cells
  have kt : (id != id) = false := by simp
  go_enter Tryz.func130, Tryz.ntmps130
  go_wp2_with fail
  refine (epoch_yes me _ hme).mono ?_
  rintro e w1 ⟨rfl, hwz⟩
  obtain rfl := hwz.symm
  go_wp2_with fail
  refine (fits_y B 1 id me at1 pr true ee ki pe a m c1 _ hb hf (by omega)).mono ?_
  rintro e w2 ⟨rfl, hn2⟩
  have b2 := hb.new hn2
  have c2 := b2.cells
  go_wp2_with fail
  refine (eF_any B 1 id me at1 pr true ee ki pe a m c1 _ b2 hm).mono ?_
  rintro e w3 ⟨rfl, hn3⟩
  rw [hv]
  go_wp2
  go_ret
  exact ⟨rfl, hn2.trans hn3⟩

theorem ffa1 (id : Int) (B : Nat) (me at1 pr : Int) (a : Option Addr) (c1 : Nat) (w : World) (hb : Blk w B 120 #[.int .i64 1, .int .i64 id, .int .i64 me, .int .i64 at1, .int .i64 pr, .bool false, .int .i64 0, .int .i64 0, .int .i64 0, .slice a 0 c1])  (hme : 1 ≤ me ∧ me ≤ 1000) (h1 : 0 ≤ at1) (h2 : at1 ≤ 100) (h3 : 0 ≤ pr) (h4 : pr ≤ 1000) (hf : Fp 1 me at1 pr) :
    Calls Tryz.prog 130 #[.pointer (some ⟨B, 0, none⟩), .int .i64 id] w fun e w' => e = .returned (.int .i64 0) ∧ New w w' := by
  have cB := hb.cells
  have kt : (id != id) = false := by simp
  go_enter Tryz.func130, Tryz.ntmps130
  go_wp2_with fail
  refine (epoch_yes me _ hme).mono ?_
  rintro e w1 ⟨rfl, hwz⟩
  obtain rfl := hwz.symm
  go_wp2_with fail
  refine (fits_y B 1 id me at1 pr false 0 0 0 a 0 c1 _ hb hf (by omega)).mono ?_
  rintro e w2 ⟨rfl, hn2⟩
  have b2 := hb.new hn2
  have c2 := b2.cells
  go_wp2_with fail
  refine (nz_yes a c1 _).mono ?_
  rintro e w3 ⟨rfl, hn3⟩
  go_wp2
  go_ret
  exact ⟨rfl, hn2.trans hn3⟩

theorem ffb1 (id : Int) (B : Nat) (me at1 pr : Int) (ee ki pe : Int) (a : Option Addr) (m c1 : Nat) (w : World) (hb : Blk w B 120 #[.int .i64 1, .int .i64 id, .int .i64 me, .int .i64 at1, .int .i64 pr, .bool false, .int .i64 ee, .int .i64 ki, .int .i64 pe, .slice a m c1]) (hm : m ≤ 1048576) (hme : 1 ≤ me ∧ me ≤ 1000) (h1 : 0 ≤ at1) (h2 : at1 ≤ 100) (h3 : 0 ≤ pr) (h4 : pr ≤ 1000) (hf : Fp 1 me at1 pr) (hz : ¬ Zr ee ki pe m) :
    Calls Tryz.prog 130 #[.pointer (some ⟨B, 0, none⟩), .int .i64 id] w fun e w' => e = .returned (.int .i64 1) ∧ New w w' := by
  have cB := hb.cells
  have kt : (id != id) = false := by simp
  go_enter Tryz.func130, Tryz.ntmps130
  go_wp2_with fail
  refine (epoch_yes me _ hme).mono ?_
  rintro e w1 ⟨rfl, hwz⟩
  obtain rfl := hwz.symm
  go_wp2_with fail
  refine (fits_y B 1 id me at1 pr false ee ki pe a m c1 _ hb hf (by omega)).mono ?_
  rintro e w2 ⟨rfl, hn2⟩
  have b2 := hb.new hn2
  have c2 := b2.cells
  go_wp2_with fail
  refine (nz_no ee ki pe a m c1 _ hm hz).mono ?_
  rintro e w3 ⟨rfl, hn3⟩
  go_wp2
  go_ret
  exact ⟨rfl, hn2.trans hn3⟩

theorem ff22 (id : Int) (B : Nat) (tgt me at1 pr : Int) (has : Bool) (ee ki pe : Int) (a : Option Addr) (m c1 : Nat) (w : World) (hb : Blk w B 120 #[.int .i64 2, .int .i64 tgt, .int .i64 me, .int .i64 at1, .int .i64 pr, .bool has, .int .i64 ee, .int .i64 ki, .int .i64 pe, .slice a m c1]) (hm : m ≤ 1048576) (ht : ¬ tgt = id) :
    Calls Tryz.prog 130 #[.pointer (some ⟨B, 0, none⟩), .int .i64 id] w fun e w' => e = .returned (.int .i64 1) ∧ New w w' := by
  have cB := hb.cells
  have kt : (tgt != id) = true := by simp [ht]
  go_enter Tryz.func130, Tryz.ntmps130
  go_wp2
  go_ret
  exact ⟨rfl, New.refl _⟩

theorem ff32 (id : Int) (B : Nat) (me at1 pr : Int) (has : Bool) (ee ki pe : Int) (a : Option Addr) (m c1 : Nat) (w : World) (hb : Blk w B 120 #[.int .i64 2, .int .i64 id, .int .i64 me, .int .i64 at1, .int .i64 pr, .bool has, .int .i64 ee, .int .i64 ki, .int .i64 pe, .slice a m c1]) (hm : m ≤ 1048576) (hme : me < 1 ∨ 1000 < me) :
    Calls Tryz.prog 130 #[.pointer (some ⟨B, 0, none⟩), .int .i64 id] w fun e w' => e = .returned (.int .i64 3) ∧ New w w' := by
  have cB := hb.cells
  have kt : (id != id) = false := by simp
  go_enter Tryz.func130, Tryz.ntmps130
  go_wp2_with fail
  refine (epoch_no me _ hme).mono ?_
  rintro e w1 ⟨rfl, hwz⟩
  obtain rfl := hwz.symm
  go_wp2
  go_ret
  exact ⟨rfl, New.refl _⟩

theorem ff42 (id : Int) (B : Nat) (me at1 pr : Int) (has : Bool) (ee ki pe : Int) (a : Option Addr) (m c1 : Nat) (w : World) (hb : Blk w B 120 #[.int .i64 2, .int .i64 id, .int .i64 me, .int .i64 at1, .int .i64 pr, .bool has, .int .i64 ee, .int .i64 ki, .int .i64 pe, .slice a m c1]) (hm : m ≤ 1048576) (hme : 1 ≤ me ∧ me ≤ 1000) (h1 : at1 < 0) :
    Calls Tryz.prog 130 #[.pointer (some ⟨B, 0, none⟩), .int .i64 id] w fun e w' => e = .returned (.int .i64 3) ∧ New w w' := by
  have cB := hb.cells
  have kt : (id != id) = false := by simp
  go_enter Tryz.func130, Tryz.ntmps130
  go_wp2_with fail
  refine (epoch_yes me _ hme).mono ?_
  rintro e w1 ⟨rfl, hwz⟩
  obtain rfl := hwz.symm
  go_wp2
  go_ret
  exact ⟨rfl, New.refl _⟩

theorem ff52 (id : Int) (B : Nat) (me at1 pr : Int) (has : Bool) (ee ki pe : Int) (a : Option Addr) (m c1 : Nat) (w : World) (hb : Blk w B 120 #[.int .i64 2, .int .i64 id, .int .i64 me, .int .i64 at1, .int .i64 pr, .bool has, .int .i64 ee, .int .i64 ki, .int .i64 pe, .slice a m c1]) (hm : m ≤ 1048576) (hme : 1 ≤ me ∧ me ≤ 1000) (h1 : 0 ≤ at1) (h2 : 100 < at1) :
    Calls Tryz.prog 130 #[.pointer (some ⟨B, 0, none⟩), .int .i64 id] w fun e w' => e = .returned (.int .i64 3) ∧ New w w' := by
  have cB := hb.cells
  have kt : (id != id) = false := by simp
  go_enter Tryz.func130, Tryz.ntmps130
  go_wp2_with fail
  refine (epoch_yes me _ hme).mono ?_
  rintro e w1 ⟨rfl, hwz⟩
  obtain rfl := hwz.symm
  go_wp2
  go_ret
  exact ⟨rfl, New.refl _⟩

theorem ff62 (id : Int) (B : Nat) (me at1 pr : Int) (has : Bool) (ee ki pe : Int) (a : Option Addr) (m c1 : Nat) (w : World) (hb : Blk w B 120 #[.int .i64 2, .int .i64 id, .int .i64 me, .int .i64 at1, .int .i64 pr, .bool has, .int .i64 ee, .int .i64 ki, .int .i64 pe, .slice a m c1]) (hm : m ≤ 1048576) (hme : 1 ≤ me ∧ me ≤ 1000) (h1 : 0 ≤ at1) (h2 : at1 ≤ 100) (h3 : pr < 0) :
    Calls Tryz.prog 130 #[.pointer (some ⟨B, 0, none⟩), .int .i64 id] w fun e w' => e = .returned (.int .i64 3) ∧ New w w' := by
  have cB := hb.cells
  have kt : (id != id) = false := by simp
  go_enter Tryz.func130, Tryz.ntmps130
  go_wp2_with fail
  refine (epoch_yes me _ hme).mono ?_
  rintro e w1 ⟨rfl, hwz⟩
  obtain rfl := hwz.symm
  go_wp2
  go_ret
  exact ⟨rfl, New.refl _⟩

theorem ff72 (id : Int) (B : Nat) (me at1 pr : Int) (has : Bool) (ee ki pe : Int) (a : Option Addr) (m c1 : Nat) (w : World) (hb : Blk w B 120 #[.int .i64 2, .int .i64 id, .int .i64 me, .int .i64 at1, .int .i64 pr, .bool has, .int .i64 ee, .int .i64 ki, .int .i64 pe, .slice a m c1]) (hm : m ≤ 1048576) (hme : 1 ≤ me ∧ me ≤ 1000) (h1 : 0 ≤ at1) (h2 : at1 ≤ 100) (h3 : 0 ≤ pr) (h4 : 1000 < pr) :
    Calls Tryz.prog 130 #[.pointer (some ⟨B, 0, none⟩), .int .i64 id] w fun e w' => e = .returned (.int .i64 3) ∧ New w w' := by
  have cB := hb.cells
  have kt : (id != id) = false := by simp
  go_enter Tryz.func130, Tryz.ntmps130
  go_wp2_with fail
  refine (epoch_yes me _ hme).mono ?_
  rintro e w1 ⟨rfl, hwz⟩
  obtain rfl := hwz.symm
  go_wp2
  go_ret
  exact ⟨rfl, New.refl _⟩

theorem ff82 (id : Int) (B : Nat) (me at1 pr : Int) (has : Bool) (ee ki pe : Int) (a : Option Addr) (m c1 : Nat) (w : World) (hb : Blk w B 120 #[.int .i64 2, .int .i64 id, .int .i64 me, .int .i64 at1, .int .i64 pr, .bool has, .int .i64 ee, .int .i64 ki, .int .i64 pe, .slice a m c1]) (hm : m ≤ 1048576) (hme : 1 ≤ me ∧ me ≤ 1000) (h1 : 0 ≤ at1) (h2 : at1 ≤ 100) (h3 : 0 ≤ pr) (h4 : pr ≤ 1000) (hf : ¬ Fp 2 me at1 pr) :
    Calls Tryz.prog 130 #[.pointer (some ⟨B, 0, none⟩), .int .i64 id] w fun e w' => e = .returned (.int .i64 1) ∧ New w w' := by
  have cB := hb.cells
  have kt : (id != id) = false := by simp
  go_enter Tryz.func130, Tryz.ntmps130
  go_wp2_with fail
  refine (epoch_yes me _ hme).mono ?_
  rintro e w1 ⟨rfl, hwz⟩
  obtain rfl := hwz.symm
  go_wp2_with fail
  refine (fits_n B 2 id me at1 pr has ee ki pe a m c1 _ hb hf).mono ?_
  rintro e w2 ⟨rfl, hn2⟩
  go_wp2
  go_ret
  exact ⟨rfl, hn2⟩

theorem ff92 (id : Int) (B : Nat) (me at1 pr : Int) (ee ki pe : Int) (a : Option Addr) (m c1 : Nat) (w : World) (hb : Blk w B 120 #[.int .i64 2, .int .i64 id, .int .i64 me, .int .i64 at1, .int .i64 pr, .bool true, .int .i64 ee, .int .i64 ki, .int .i64 pe, .slice a m c1]) (hm : m ≤ 1048576) (hme : 1 ≤ me ∧ me ≤ 1000) (h1 : 0 ≤ at1) (h2 : at1 ≤ 100) (h3 : 0 ≤ pr) (h4 : pr ≤ 1000) (hf : Fp 2 me at1 pr) :
    Calls Tryz.prog 130 #[.pointer (some ⟨B, 0, none⟩), .int .i64 id] w fun e w' => e = .returned (.int .i64 1) ∧ New w w' := by
  have cB := hb.cells
  have kt : (id != id) = false := by simp
  go_enter Tryz.func130, Tryz.ntmps130
  go_wp2_with fail
  refine (epoch_yes me _ hme).mono ?_
  rintro e w1 ⟨rfl, hwz⟩
  obtain rfl := hwz.symm
  go_wp2_with fail
  refine (fits_y B 2 id me at1 pr true ee ki pe a m c1 _ hb hf (by omega)).mono ?_
  rintro e w2 ⟨rfl, hn2⟩
  have b2 := hb.new hn2
  have c2 := b2.cells
  go_wp2
  go_ret
  exact ⟨rfl, hn2⟩

theorem ffa2 (id : Int) (B : Nat) (me at1 pr : Int) (a : Option Addr) (c1 : Nat) (w : World) (hb : Blk w B 120 #[.int .i64 2, .int .i64 id, .int .i64 me, .int .i64 at1, .int .i64 pr, .bool false, .int .i64 0, .int .i64 0, .int .i64 0, .slice a 0 c1])  (hme : 1 ≤ me ∧ me ≤ 1000) (h1 : 0 ≤ at1) (h2 : at1 ≤ 100) (h3 : 0 ≤ pr) (h4 : pr ≤ 1000) (hf : Fp 2 me at1 pr) :
    Calls Tryz.prog 130 #[.pointer (some ⟨B, 0, none⟩), .int .i64 id] w fun e w' => e = .returned (.int .i64 0) ∧ New w w' := by
  have cB := hb.cells
  have kt : (id != id) = false := by simp
  go_enter Tryz.func130, Tryz.ntmps130
  go_wp2_with fail
  refine (epoch_yes me _ hme).mono ?_
  rintro e w1 ⟨rfl, hwz⟩
  obtain rfl := hwz.symm
  go_wp2_with fail
  refine (fits_y B 2 id me at1 pr false 0 0 0 a 0 c1 _ hb hf (by omega)).mono ?_
  rintro e w2 ⟨rfl, hn2⟩
  have b2 := hb.new hn2
  have c2 := b2.cells
  go_wp2_with fail
  refine (nz_yes a c1 _).mono ?_
  rintro e w3 ⟨rfl, hn3⟩
  go_wp2
  go_ret
  exact ⟨rfl, hn2.trans hn3⟩

theorem ffb2 (id : Int) (B : Nat) (me at1 pr : Int) (ee ki pe : Int) (a : Option Addr) (m c1 : Nat) (w : World) (hb : Blk w B 120 #[.int .i64 2, .int .i64 id, .int .i64 me, .int .i64 at1, .int .i64 pr, .bool false, .int .i64 ee, .int .i64 ki, .int .i64 pe, .slice a m c1]) (hm : m ≤ 1048576) (hme : 1 ≤ me ∧ me ≤ 1000) (h1 : 0 ≤ at1) (h2 : at1 ≤ 100) (h3 : 0 ≤ pr) (h4 : pr ≤ 1000) (hf : Fp 2 me at1 pr) (hz : ¬ Zr ee ki pe m) :
    Calls Tryz.prog 130 #[.pointer (some ⟨B, 0, none⟩), .int .i64 id] w fun e w' => e = .returned (.int .i64 1) ∧ New w w' := by
  have cB := hb.cells
  have kt : (id != id) = false := by simp
  go_enter Tryz.func130, Tryz.ntmps130
  go_wp2_with fail
  refine (epoch_yes me _ hme).mono ?_
  rintro e w1 ⟨rfl, hwz⟩
  obtain rfl := hwz.symm
  go_wp2_with fail
  refine (fits_y B 2 id me at1 pr false ee ki pe a m c1 _ hb hf (by omega)).mono ?_
  rintro e w2 ⟨rfl, hn2⟩
  have b2 := hb.new hn2
  have c2 := b2.cells
  go_wp2_with fail
  refine (nz_no ee ki pe a m c1 _ hm hz).mono ?_
  rintro e w3 ⟨rfl, hn3⟩
  go_wp2
  go_ret
  exact ⟨rfl, hn2.trans hn3⟩

theorem fFor_any (id : Int) (B : Nat) (kd tgt me at1 pr : Int) (has : Bool) (ee ki pe : Int) (a : Option Addr) (m c1 : Nat) (w : World) (hb : Blk w B 120 #[.int .i64 kd, .int .i64 tgt, .int .i64 me, .int .i64 at1, .int .i64 pr, .bool has, .int .i64 ee, .int .i64 ki, .int .i64 pe, .slice a m c1]) (hm : m ≤ 1048576) :
    Calls Tryz.prog 130 #[.pointer (some ⟨B, 0, none⟩), .int .i64 id] w fun e w' => e = .returned (.int .i64 (mlF id kd tgt me at1 pr has ee ki pe m)) ∧ New w w' := by
  unfold mlF
  by_cases hk : kd = 1 ∨ kd = 2
  case neg => rw [if_pos (fun k => hk k.1)]; exact ff1 id B kd tgt me at1 pr has ee ki pe a m c1 w hb hm (fun e => hk (.inl e)) (fun e => hk (.inr e))
  by_cases ht : tgt = id
  case neg =>
    rw [if_pos (fun k => ht k.2)]
    rcases hk with rfl | rfl
    · exact ff21 id B tgt me at1 pr has ee ki pe a m c1 w hb hm ht
    · exact ff22 id B tgt me at1 pr has ee ki pe a m c1 w hb hm ht
  rw [if_neg (fun k => k ⟨hk, ht⟩)]
  subst ht
  by_cases hme : 1 ≤ me ∧ me ≤ 1000
  case neg => rw [if_pos (fun k => hme k.1)]; (rcases hk with rfl | rfl; exact ff31 tgt B me at1 pr has ee ki pe a m c1 w hb hm (by omega); exact ff32 tgt B me at1 pr has ee ki pe a m c1 w hb hm (by omega))
  by_cases h1 : 0 ≤ at1
  case neg => rw [if_pos (fun k => h1 k.2.1.1)]; (rcases hk with rfl | rfl; exact ff41 tgt B me at1 pr has ee ki pe a m c1 w hb hm hme (by omega); exact ff42 tgt B me at1 pr has ee ki pe a m c1 w hb hm hme (by omega))
  by_cases h2 : at1 ≤ 100
  case neg => rw [if_pos (fun k => h2 k.2.1.2)]; (rcases hk with rfl | rfl; exact ff51 tgt B me at1 pr has ee ki pe a m c1 w hb hm hme h1 (by omega); exact ff52 tgt B me at1 pr has ee ki pe a m c1 w hb hm hme h1 (by omega))
  by_cases h3 : 0 ≤ pr
  case neg => rw [if_pos (fun k => h3 k.2.2.1)]; (rcases hk with rfl | rfl; exact ff61 tgt B me at1 pr has ee ki pe a m c1 w hb hm hme h1 h2 (by omega); exact ff62 tgt B me at1 pr has ee ki pe a m c1 w hb hm hme h1 h2 (by omega))
  by_cases h4 : pr ≤ 1000
  case neg => rw [if_pos (fun k => h4 k.2.2.2)]; (rcases hk with rfl | rfl; exact ff71 tgt B me at1 pr has ee ki pe a m c1 w hb hm hme h1 h2 h3 (by omega); exact ff72 tgt B me at1 pr has ee ki pe a m c1 w hb hm hme h1 h2 h3 (by omega))
  rw [if_neg (fun k => k ⟨hme, ⟨h1, h2⟩, h3, h4⟩)]
  by_cases hf : (kd = 2 → pr = 0) ∧ (kd ≠ 2 → ((at1 = 0 → pr = 0) ∧ (pr = 0 → at1 = 0)) ∧ pr ≤ me)
  case neg => rw [if_pos hf]; (rcases hk with rfl | rfl; exact ff81 tgt B me at1 pr has ee ki pe a m c1 w hb hm hme h1 h2 h3 h4 hf; exact ff82 tgt B me at1 pr has ee ki pe a m c1 w hb hm hme h1 h2 h3 h4 hf)
  rw [if_neg (fun k => k hf)]
  cases has with
  | true =>
    rcases hk with rfl | rfl
    · rw [if_pos ⟨rfl, rfl⟩]; exact ff91 tgt B me at1 pr ee ki pe a m c1 w hb hm hme h1 h2 h3 h4 hf _ rfl
    · rw [if_neg (by omega), if_pos (.inl rfl)]; exact ff92 tgt B me at1 pr ee ki pe a m c1 w hb hm hme h1 h2 h3 h4 hf
  | false =>
    rw [if_neg (by simp)]
    by_cases hz : ee = 0 ∧ ki = 0 ∧ pe = 0 ∧ m = 0
    · rw [if_neg (fun k => by rcases k with k | k; cases k; exact k hz)]
      obtain ⟨rfl, rfl, rfl, rfl⟩ := hz
      rcases hk with rfl | rfl
      · exact ffa1 tgt B me at1 pr a c1 w hb hme h1 h2 h3 h4 hf
      · exact ffa2 tgt B me at1 pr a c1 w hb hme h1 h2 h3 h4 hf
    · rw [if_pos (.inr hz)]
      rcases hk with rfl | rfl
      · exact ffb1 tgt B me at1 pr ee ki pe a m c1 w hb hm hme h1 h2 h3 h4 hf hz
      · exact ffb2 tgt B me at1 pr ee ki pe a m c1 w hb hm hme h1 h2 h3 h4 hf hz

end Go.Proofs.YtdbnmkffinhdjaaGreat
