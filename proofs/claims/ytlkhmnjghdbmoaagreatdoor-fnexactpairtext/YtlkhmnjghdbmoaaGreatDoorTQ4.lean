/- What is proved here: what the program's judging of a mail answers, for every mail of at most 1048576 bytes. What is proved here: what the model's judging of a mail answers, for every mail of at most 1048576 bytes. What is proved here: what MailFault answers, both sides; how mails are copied and come in, for every mail of at most 1048576 bytes. What is proved here: what the fault of a wire is, in the program and in the model, for every wire of at most 1048576 bytes each. What is proved here: what the measuring, copying and comparing of a wire answer, for every wire of at most 1048576 bytes. What is proved here: how an argument that is a wire comes in. No condition. -/
import Derived.Test.YtlkhmnjghdbmoaaGreatDoorTQ3
import Derived.Test.YtlkhmnjghdbmoaaGreatDoorNumLib
import Derived.Test.YtlkhmnjghdbmoaaGreatDoorFrLib
import Derived.Deep.RegionHeld3
import Derived.Deep.CutRange
import Derived.Test.YtlkhmnjghdbmoaaGreatDoorOpen
namespace Go.Proofs.YtlkhmnjghdbmoaaGreatDoor
open Go.RowKit Go.Sort
set_option linter.unusedVariables false
set_option linter.unusedSimpArgs false
set_option maxRecDepth 100000

/-- An entry of zeros. -/
def Zr (ee ki pe : Int) (m : Nat) : Prop := ee = 0 ∧ ki = 0 ∧ pe = 0 ∧ m = 0
/-- What fits ahead of a place. -/
def Fp (kd me at1 pr : Int) : Prop := (kd = 2 → pr = 0) ∧ (kd ≠ 2 → ((at1 = 0 → pr = 0) ∧ (pr = 0 → at1 = 0)) ∧ pr ≤ me)
/-- The fault of a mail's entry. -/
def efF (me pr ee ki pe : Int) (m : Nat) : Int := if enF ee ki pe m ≠ 0 then enF ee ki pe m else if me < ee ∨ ee < pr then 1 else 0
/-- The fault of a mail to the node id. -/
def mlF (id kd tgt me at1 pr : Int) (has : Bool) (ee ki pe : Int) (m : Nat) : Int :=
  if ¬ ((kd = 1 ∨ kd = 2) ∧ tgt = id) then 1 else if ¬ ((1 ≤ me ∧ me ≤ 1000) ∧ (0 ≤ at1 ∧ at1 ≤ 100) ∧ 0 ≤ pr ∧ pr ≤ 1000) then 3
  else if ¬ ((kd = 2 → pr = 0) ∧ (kd ≠ 2 → ((at1 = 0 → pr = 0) ∧ (pr = 0 → at1 = 0)) ∧ pr ≤ me)) then 1
  else if kd = 1 ∧ has = true then efF me pr ee ki pe m else if has = true ∨ ¬ (ee = 0 ∧ ki = 0 ∧ pe = 0 ∧ m = 0) then 1 else 0

theorem nz_yes (a : Option Addr) (c1 : Nat) (w : World) : Calls Tryz.prog 113 #[.agg #[.int .i64 0, .int .i64 0, .int .i64 0, .slice a 0 c1]] w fun e w' => e = .returned (.bool true) ∧ New w w' := by
  go_enter Tryz.func113, Tryz.ntmps113
  go_wp2
  go_ret
  exact ⟨rfl, (New.refl w).alloc _⟩
theorem nz_no (ee ki pe : Int) (a : Option Addr) (m c1 : Nat) (w : World) (hm : m ≤ 1048576) (h : ¬ Zr ee ki pe m) : Calls Tryz.prog 113 #[.agg #[.int .i64 ee, .int .i64 ki, .int .i64 pe, .slice a m c1]] w fun e w' => e = .returned (.bool false) ∧ New w w' := by
  by_cases h1 : ee = 0
  case neg =>
    have g : (ee == 0) = false := by simp [h1]
    clear h
    go_enter Tryz.func113, Tryz.ntmps113
    go_wp2
    go_ret
    exact ⟨rfl, (New.refl w).alloc _⟩
  by_cases h2 : ki = 0
  case neg =>
    have g : (ki == 0) = false := by simp [h2]
    clear h
    subst h1
    go_enter Tryz.func113, Tryz.ntmps113
    go_wp2
    go_ret
    exact ⟨rfl, (New.refl w).alloc _⟩
  by_cases h3 : pe = 0
  case neg =>
    have g : (pe == 0) = false := by simp [h3]
    clear h
    subst h1 h2
    go_enter Tryz.func113, Tryz.ntmps113
    go_wp2
    go_ret
    exact ⟨rfl, (New.refl w).alloc _⟩
  have h4 : ¬ m = 0 := fun e => h ⟨h1, h2, h3, e⟩
  have g : ((m : Int) == 0) = false := by simp [h4]
  clear h
  subst h1 h2 h3
  go_enter Tryz.func113, Tryz.ntmps113
  go_wp2
  go_ret
  exact ⟨rfl, (New.refl w).alloc _⟩

set_option maxHeartbeats 800000 in
theorem fp2y (B : Nat) (tgt me at1 : Int) (has : Bool) (ee ki pe : Int) (a : Option Addr) (m c1 : Nat) (w : World) (hb : Blk w B 115 #[.int .i64 2, .int .i64 tgt, .int .i64 me, .int .i64 at1, .int .i64 0, .bool has, .int .i64 ee, .int .i64 ki, .int .i64 pe, .slice a m c1]) :
    Calls Tryz.prog 111 #[.pointer (some ⟨B, 0, none⟩)] w fun e w' => e = .returned (.bool true) ∧ New w w' := by
  have cB := hb.cells
  have CB := blk_regrown hb
  go_enter Tryz.func111, Tryz.ntmps111
  go_wp2
  go_ret
  exact ⟨rfl, New.refl _⟩

set_option maxHeartbeats 800000 in
theorem fp2n (B : Nat) (tgt me at1 pr : Int) (has : Bool) (ee ki pe : Int) (a : Option Addr) (m c1 : Nat) (w : World) (hb : Blk w B 115 #[.int .i64 2, .int .i64 tgt, .int .i64 me, .int .i64 at1, .int .i64 pr, .bool has, .int .i64 ee, .int .i64 ki, .int .i64 pe, .slice a m c1]) (hpr : ¬ pr = 0) :
    Calls Tryz.prog 111 #[.pointer (some ⟨B, 0, none⟩)] w fun e w' => e = .returned (.bool false) ∧ New w w' := by
  have cB := hb.cells
  have CB := blk_regrown hb
  have gpr : (pr == 0) = false := by simp [hpr]
  go_enter Tryz.func111, Tryz.ntmps111
  go_wp2
  go_ret
  exact ⟨rfl, New.refl _⟩

set_option maxHeartbeats 800000 in
theorem fp1a (B : Nat) (kd tgt me : Int) (has : Bool) (ee ki pe : Int) (a : Option Addr) (m c1 : Nat) (w : World) (hb : Blk w B 115 #[.int .i64 kd, .int .i64 tgt, .int .i64 me, .int .i64 0, .int .i64 0, .bool has, .int .i64 ee, .int .i64 ki, .int .i64 pe, .slice a m c1]) (hkd : ¬ kd = 2) (hme : 0 ≤ me) :
    Calls Tryz.prog 111 #[.pointer (some ⟨B, 0, none⟩)] w fun e w' => e = .returned (.bool true) ∧ New w w' := by
  have cB := hb.cells
  have CB := blk_regrown hb
  have gkd : (kd == 2) = false := by simp [hkd]
  go_enter Tryz.func111, Tryz.ntmps111
  go_wp2
  refine wp_region_quiet_below (by kernel_rfl) (by kernel_rfl) ?_
  repeat (go_big_quiet_step (fail))
  refine wpQuiet_nil ?_
  rintro w3 hn3
  replace hn3 := new_of_regrown hn3
  go_wp2
  go_ret
  exact ⟨rfl, hn3⟩

set_option maxHeartbeats 800000 in
theorem fp1b (B : Nat) (kd tgt me at1 pr : Int) (has : Bool) (ee ki pe : Int) (a : Option Addr) (m c1 : Nat) (w : World) (hb : Blk w B 115 #[.int .i64 kd, .int .i64 tgt, .int .i64 me, .int .i64 at1, .int .i64 pr, .bool has, .int .i64 ee, .int .i64 ki, .int .i64 pe, .slice a m c1]) (hkd : ¬ kd = 2) (hat1 : ¬ at1 = 0) (hpr : ¬ pr = 0) (hle : pr ≤ me) :
    Calls Tryz.prog 111 #[.pointer (some ⟨B, 0, none⟩)] w fun e w' => e = .returned (.bool true) ∧ New w w' := by
  have cB := hb.cells
  have CB := blk_regrown hb
  have gkd : (kd == 2) = false := by simp [hkd]
  have gat1 : (at1 == 0) = false := by simp [hat1]
  have gpr : (pr == 0) = false := by simp [hpr]
  go_enter Tryz.func111, Tryz.ntmps111
  go_wp2
  refine wp_region_quiet_below (by kernel_rfl) (by kernel_rfl) ?_
  repeat (go_big_quiet_step (fail))
  refine wpQuiet_nil ?_
  rintro w3 hn3
  replace hn3 := new_of_regrown hn3
  go_wp2
  go_ret
  exact ⟨rfl, hn3⟩

set_option maxHeartbeats 800000 in
theorem fp1c (B : Nat) (kd tgt me pr : Int) (has : Bool) (ee ki pe : Int) (a : Option Addr) (m c1 : Nat) (w : World) (hb : Blk w B 115 #[.int .i64 kd, .int .i64 tgt, .int .i64 me, .int .i64 0, .int .i64 pr, .bool has, .int .i64 ee, .int .i64 ki, .int .i64 pe, .slice a m c1]) (hkd : ¬ kd = 2) (hpr : ¬ pr = 0) :
    Calls Tryz.prog 111 #[.pointer (some ⟨B, 0, none⟩)] w fun e w' => e = .returned (.bool false) ∧ New w w' := by
  have cB := hb.cells
  have CB := blk_regrown hb
  have gkd : (kd == 2) = false := by simp [hkd]
  have gpr : (pr == 0) = false := by simp [hpr]
  go_enter Tryz.func111, Tryz.ntmps111
  go_wp2
  refine wp_region_quiet_below (by kernel_rfl) (by kernel_rfl) ?_
  repeat (go_big_quiet_step (fail))
  refine wpQuiet_nil ?_
  rintro w3 hn3
  replace hn3 := new_of_regrown hn3
  go_wp2
  go_ret
  exact ⟨rfl, hn3⟩

set_option maxHeartbeats 800000 in
theorem fp1d (B : Nat) (kd tgt me at1 : Int) (has : Bool) (ee ki pe : Int) (a : Option Addr) (m c1 : Nat) (w : World) (hb : Blk w B 115 #[.int .i64 kd, .int .i64 tgt, .int .i64 me, .int .i64 at1, .int .i64 0, .bool has, .int .i64 ee, .int .i64 ki, .int .i64 pe, .slice a m c1]) (hkd : ¬ kd = 2) (hat1 : ¬ at1 = 0) :
    Calls Tryz.prog 111 #[.pointer (some ⟨B, 0, none⟩)] w fun e w' => e = .returned (.bool false) ∧ New w w' := by
  have cB := hb.cells
  have CB := blk_regrown hb
  have gkd : (kd == 2) = false := by simp [hkd]
  have gat1 : (at1 == 0) = false := by simp [hat1]
  go_enter Tryz.func111, Tryz.ntmps111
  go_wp2
  refine wp_region_quiet_below (by kernel_rfl) (by kernel_rfl) ?_
  repeat (go_big_quiet_step (fail))
  refine wpQuiet_nil ?_
  rintro w3 hn3
  replace hn3 := new_of_regrown hn3
  go_wp2
  go_ret
  exact ⟨rfl, hn3⟩

set_option maxHeartbeats 800000 in
theorem fp1e (B : Nat) (kd tgt me at1 pr : Int) (has : Bool) (ee ki pe : Int) (a : Option Addr) (m c1 : Nat) (w : World) (hb : Blk w B 115 #[.int .i64 kd, .int .i64 tgt, .int .i64 me, .int .i64 at1, .int .i64 pr, .bool has, .int .i64 ee, .int .i64 ki, .int .i64 pe, .slice a m c1]) (hkd : ¬ kd = 2) (hat1 : ¬ at1 = 0) (hpr : ¬ pr = 0) (hle : ¬ pr ≤ me) :
    Calls Tryz.prog 111 #[.pointer (some ⟨B, 0, none⟩)] w fun e w' => e = .returned (.bool false) ∧ New w w' := by
  have cB := hb.cells
  have CB := blk_regrown hb
  have gkd : (kd == 2) = false := by simp [hkd]
  have gat1 : (at1 == 0) = false := by simp [hat1]
  have gpr : (pr == 0) = false := by simp [hpr]
  have gle : decide (pr ≤ me) = false := decide_eq_false hle
  go_enter Tryz.func111, Tryz.ntmps111
  go_wp2
  refine wp_region_quiet_below (by kernel_rfl) (by kernel_rfl) ?_
  repeat (go_big_quiet_step (fail))
  refine wpQuiet_nil ?_
  rintro w3 hn3
  replace hn3 := new_of_regrown hn3
  go_wp2
  go_ret
  exact ⟨rfl, hn3⟩

set_option maxHeartbeats 800000 in
theorem fp1z (B : Nat) (kd tgt me : Int) (has : Bool) (ee ki pe : Int) (a : Option Addr) (m c1 : Nat) (w : World) (hb : Blk w B 115 #[.int .i64 kd, .int .i64 tgt, .int .i64 me, .int .i64 0, .int .i64 0, .bool has, .int .i64 ee, .int .i64 ki, .int .i64 pe, .slice a m c1]) (hkd : ¬ kd = 2) (hle : ¬ (0 : Int) ≤ me) :
    Calls Tryz.prog 111 #[.pointer (some ⟨B, 0, none⟩)] w fun e w' => e = .returned (.bool false) ∧ New w w' := by
  have cB := hb.cells
  have CB := blk_regrown hb
  have gkd : (kd == 2) = false := by simp [hkd]
  have gle : decide ((0 : Int) ≤ me) = false := decide_eq_false hle
  go_enter Tryz.func111, Tryz.ntmps111
  go_wp2
  refine wp_region_quiet_below (by kernel_rfl) (by kernel_rfl) ?_
  repeat (go_big_quiet_step (fail))
  refine wpQuiet_nil ?_
  rintro w3 hn3
  replace hn3 := new_of_regrown hn3
  go_wp2
  go_ret
  exact ⟨rfl, hn3⟩

theorem fits_y (B : Nat) (kd tgt me at1 pr : Int) (has : Bool) (ee ki pe : Int) (a : Option Addr) (m c1 : Nat) (w : World) (hb : Blk w B 115 #[.int .i64 kd, .int .i64 tgt, .int .i64 me, .int .i64 at1, .int .i64 pr, .bool has, .int .i64 ee, .int .i64 ki, .int .i64 pe, .slice a m c1]) (h : Fp kd me at1 pr) (hme : 0 ≤ me) :
    Calls Tryz.prog 111 #[.pointer (some ⟨B, 0, none⟩)] w fun e w' => e = .returned (.bool true) ∧ New w w' := by
  by_cases hk : kd = 2
  · subst hk
    obtain rfl := h.1 rfl
    exact fp2y B tgt me at1 has ee ki pe a m c1 w hb
  · obtain ⟨⟨h1, h2⟩, h3⟩ := h.2 hk
    by_cases ha : at1 = 0
    · obtain rfl := h1 ha
      subst ha
      exact fp1a B kd tgt me has ee ki pe a m c1 w hb hk hme
    · exact fp1b B kd tgt me at1 pr has ee ki pe a m c1 w hb hk ha (fun e => ha (h2 e)) h3
theorem fits_n (B : Nat) (kd tgt me at1 pr : Int) (has : Bool) (ee ki pe : Int) (a : Option Addr) (m c1 : Nat) (w : World) (hb : Blk w B 115 #[.int .i64 kd, .int .i64 tgt, .int .i64 me, .int .i64 at1, .int .i64 pr, .bool has, .int .i64 ee, .int .i64 ki, .int .i64 pe, .slice a m c1]) (h : ¬ Fp kd me at1 pr) :
    Calls Tryz.prog 111 #[.pointer (some ⟨B, 0, none⟩)] w fun e w' => e = .returned (.bool false) ∧ New w w' := by
  by_cases hk : kd = 2
  · subst hk
    exact fp2n B tgt me at1 pr has ee ki pe a m c1 w hb (fun e => h ⟨fun _ => e, fun f => absurd rfl f⟩)
  · by_cases ha : at1 = 0
    · subst ha
      by_cases hp : pr = 0
      · subst hp
        have hle : ¬ (0 : Int) ≤ me := fun e => h ⟨fun f => absurd f hk, fun _ => ⟨⟨fun _ => rfl, fun _ => rfl⟩, e⟩⟩
        exact fp1z B kd tgt me has ee ki pe a m c1 w hb hk hle
      · exact fp1c B kd tgt me pr has ee ki pe a m c1 w hb hk hp
    · by_cases hp : pr = 0
      · subst hp
        exact fp1d B kd tgt me at1 has ee ki pe a m c1 w hb hk ha
      · exact fp1e B kd tgt me at1 pr has ee ki pe a m c1 w hb hk ha hp (fun e => h ⟨fun f => absurd f hk, fun _ => ⟨⟨fun f => absurd f ha, fun f => absurd f hp⟩, e⟩⟩)

theorem implENv (v ee ki pe : Int) (a : Option Addr) (m c1 : Nat) (w : World) (hm : m ≤ 1048576) (hv : enF ee ki pe m = v) : Calls Tryz.prog 85 #[.agg #[.int .i64 ee, .int .i64 ki, .int .i64 pe, .slice a m c1]] w fun e w' => e = .returned (.int .i64 v) ∧ New w w' := by
  rw [← hv]; exact implEN ee ki pe a m c1 w hm
theorem specENv (v ee ki pe : Int) (a : Option Addr) (m c1 : Nat) (w : World) (hm : m ≤ 1048576) (hv : enF ee ki pe m = v) : Calls Tryz.prog 41 #[.agg #[.int .i64 ee, .int .i64 ki, .int .i64 pe, .slice a m c1]] w fun e w' => e = .returned (.int .i64 v) ∧ New w w' := by
  rw [← hv]; exact specEN ee ki pe a m c1 w hm

set_option maxHeartbeats 800000 in
theorem ef1 (B : Nat) (kd tgt me at1 pr : Int) (has : Bool) (ee ki pe : Int) (a : Option Addr) (m c1 : Nat) (w : World) (hb : Blk w B 115 #[.int .i64 kd, .int .i64 tgt, .int .i64 me, .int .i64 at1, .int .i64 pr, .bool has, .int .i64 ee, .int .i64 ki, .int .i64 pe, .slice a m c1]) (hm : m ≤ 1048576) (v : Int) (he : enF ee ki pe m = v) (hv : ¬ v = 0) :
    Calls Tryz.prog 112 #[.pointer (some ⟨B, 0, none⟩)] w fun e w' => e = .returned (.int .i64 v) ∧ New w w' := by
  have cB := hb.cells
  go_enter Tryz.func112, Tryz.ntmps112
  go_wp2_with fail
  refine (implENv v ee ki pe a m c1 _ hm he).mono ?_
  rintro e w1 ⟨rfl, hn1⟩
  go_wp2
  go_ret
  exact ⟨rfl, hn1⟩

set_option maxHeartbeats 800000 in
theorem ef2 (B : Nat) (kd tgt me at1 pr : Int) (has : Bool) (ee ki pe : Int) (a : Option Addr) (m c1 : Nat) (w : World) (hb : Blk w B 115 #[.int .i64 kd, .int .i64 tgt, .int .i64 me, .int .i64 at1, .int .i64 pr, .bool has, .int .i64 ee, .int .i64 ki, .int .i64 pe, .slice a m c1]) (hm : m ≤ 1048576) (he : enF ee ki pe m = 0) (h1 : me < ee) :
    Calls Tryz.prog 112 #[.pointer (some ⟨B, 0, none⟩)] w fun e w' => e = .returned (.int .i64 1) ∧ New w w' := by
  have cB := hb.cells
  have g1 : decide (me < ee) = true := decide_eq_true h1
  go_enter Tryz.func112, Tryz.ntmps112
  go_wp2_with fail
  refine (implENv 0 ee ki pe a m c1 _ hm he).mono ?_
  rintro e w1 ⟨rfl, hn1⟩
  have CB := blk_regrown (hb.new hn1)
  clear cB
  go_wp2
  refine wp_region_quiet_below (by kernel_rfl) (by kernel_rfl) ?_
  repeat (go_big_quiet_step (fail))
  refine wpQuiet_nil ?_
  rintro w3 hn3
  replace hn3 := new_of_regrown hn3
  go_wp2
  go_ret
  exact ⟨rfl, hn1.trans hn3⟩

set_option maxHeartbeats 800000 in
theorem ef3 (B : Nat) (kd tgt me at1 pr : Int) (has : Bool) (ee ki pe : Int) (a : Option Addr) (m c1 : Nat) (w : World) (hb : Blk w B 115 #[.int .i64 kd, .int .i64 tgt, .int .i64 me, .int .i64 at1, .int .i64 pr, .bool has, .int .i64 ee, .int .i64 ki, .int .i64 pe, .slice a m c1]) (hm : m ≤ 1048576) (he : enF ee ki pe m = 0) (h1 : ¬ me < ee) (h2 : ee < pr) :
    Calls Tryz.prog 112 #[.pointer (some ⟨B, 0, none⟩)] w fun e w' => e = .returned (.int .i64 1) ∧ New w w' := by
  have cB := hb.cells
  have g1 : decide (me < ee) = false := decide_eq_false h1
  have g2 : decide (ee < pr) = true := decide_eq_true h2
  go_enter Tryz.func112, Tryz.ntmps112
  go_wp2_with fail
  refine (implENv 0 ee ki pe a m c1 _ hm he).mono ?_
  rintro e w1 ⟨rfl, hn1⟩
  have CB := blk_regrown (hb.new hn1)
  clear cB
  go_wp2
  refine wp_region_quiet_below (by kernel_rfl) (by kernel_rfl) ?_
  repeat (go_big_quiet_step (fail))
  refine wpQuiet_nil ?_
  rintro w3 hn3
  replace hn3 := new_of_regrown hn3
  go_wp2
  go_ret
  exact ⟨rfl, hn1.trans hn3⟩

set_option maxHeartbeats 800000 in
theorem ef4 (B : Nat) (kd tgt me at1 pr : Int) (has : Bool) (ee ki pe : Int) (a : Option Addr) (m c1 : Nat) (w : World) (hb : Blk w B 115 #[.int .i64 kd, .int .i64 tgt, .int .i64 me, .int .i64 at1, .int .i64 pr, .bool has, .int .i64 ee, .int .i64 ki, .int .i64 pe, .slice a m c1]) (hm : m ≤ 1048576) (he : enF ee ki pe m = 0) (h1 : ¬ me < ee) (h2 : ¬ ee < pr) :
    Calls Tryz.prog 112 #[.pointer (some ⟨B, 0, none⟩)] w fun e w' => e = .returned (.int .i64 0) ∧ New w w' := by
  have cB := hb.cells
  have g1 : decide (me < ee) = false := decide_eq_false h1
  have g2 : decide (ee < pr) = false := decide_eq_false h2
  go_enter Tryz.func112, Tryz.ntmps112
  go_wp2_with fail
  refine (implENv 0 ee ki pe a m c1 _ hm he).mono ?_
  rintro e w1 ⟨rfl, hn1⟩
  have CB := blk_regrown (hb.new hn1)
  clear cB
  go_wp2
  refine wp_region_quiet_below (by kernel_rfl) (by kernel_rfl) ?_
  repeat (go_big_quiet_step (fail))
  refine wpQuiet_nil ?_
  rintro w3 hn3
  replace hn3 := new_of_regrown hn3
  go_wp2
  go_ret
  exact ⟨rfl, hn1.trans hn3⟩

theorem eF_any (B : Nat) (kd tgt me at1 pr : Int) (has : Bool) (ee ki pe : Int) (a : Option Addr) (m c1 : Nat) (w : World) (hb : Blk w B 115 #[.int .i64 kd, .int .i64 tgt, .int .i64 me, .int .i64 at1, .int .i64 pr, .bool has, .int .i64 ee, .int .i64 ki, .int .i64 pe, .slice a m c1]) (hm : m ≤ 1048576) :
    Calls Tryz.prog 112 #[.pointer (some ⟨B, 0, none⟩)] w fun e w' => e = .returned (.int .i64 (efF me pr ee ki pe m)) ∧ New w w' := by
  unfold efF
  by_cases he : enF ee ki pe m = 0
  · rw [if_neg (fun k => k he)]
    by_cases h1 : me < ee
    · rw [if_pos (.inl h1)]; exact ef2 B kd tgt me at1 pr has ee ki pe a m c1 w hb hm he h1
    · by_cases h2 : ee < pr
      · rw [if_pos (.inr h2)]; exact ef3 B kd tgt me at1 pr has ee ki pe a m c1 w hb hm he h1 h2
      · rw [if_neg (by omega)]; exact ef4 B kd tgt me at1 pr has ee ki pe a m c1 w hb hm he h1 h2
  · rw [if_pos he]; exact ef1 B kd tgt me at1 pr has ee ki pe a m c1 w hb hm _ rfl he

set_option maxHeartbeats 1600000 in
theorem ff1 (id : Int) (B : Nat) (kd tgt me at1 pr : Int) (has : Bool) (ee ki pe : Int) (a : Option Addr) (m c1 : Nat) (w : World) (hb : Blk w B 115 #[.int .i64 kd, .int .i64 tgt, .int .i64 me, .int .i64 at1, .int .i64 pr, .bool has, .int .i64 ee, .int .i64 ki, .int .i64 pe, .slice a m c1]) (hm : m ≤ 1048576) (hkd1 : ¬ kd = 1) (hkd2 : ¬ kd = 2) :
    Calls Tryz.prog 84 #[.pointer (some ⟨B, 0, none⟩), .int .i64 id] w fun e w' => e = .returned (.int .i64 1) ∧ New w w' := by
  have cB := hb.cells
  have gkd1 : (kd == 1) = false := by simp [hkd1]
  have kkd1 : (kd != 1) = true := by simp [hkd1]
  have gkd2 : (kd == 2) = false := by simp [hkd2]
  have kkd2 : (kd != 2) = true := by simp [hkd2]
  go_enter Tryz.func84, Tryz.ntmps84
  go_wp2
  go_ret
  exact ⟨rfl, New.refl _⟩

set_option maxHeartbeats 1600000 in
theorem ff21 (id : Int) (B : Nat) (tgt me at1 pr : Int) (has : Bool) (ee ki pe : Int) (a : Option Addr) (m c1 : Nat) (w : World) (hb : Blk w B 115 #[.int .i64 1, .int .i64 tgt, .int .i64 me, .int .i64 at1, .int .i64 pr, .bool has, .int .i64 ee, .int .i64 ki, .int .i64 pe, .slice a m c1]) (hm : m ≤ 1048576) (ht : ¬ tgt = id) :
    Calls Tryz.prog 84 #[.pointer (some ⟨B, 0, none⟩), .int .i64 id] w fun e w' => e = .returned (.int .i64 1) ∧ New w w' := by
  have cB := hb.cells
  have kt : (tgt != id) = true := by simp [ht]
  go_enter Tryz.func84, Tryz.ntmps84
  go_wp2
  go_ret
  exact ⟨rfl, New.refl _⟩

set_option maxHeartbeats 1600000 in
theorem ff31 (id : Int) (B : Nat) (me at1 pr : Int) (has : Bool) (ee ki pe : Int) (a : Option Addr) (m c1 : Nat) (w : World) (hb : Blk w B 115 #[.int .i64 1, .int .i64 id, .int .i64 me, .int .i64 at1, .int .i64 pr, .bool has, .int .i64 ee, .int .i64 ki, .int .i64 pe, .slice a m c1]) (hm : m ≤ 1048576) (hme : me < 1 ∨ 1000 < me) :
    Calls Tryz.prog 84 #[.pointer (some ⟨B, 0, none⟩), .int .i64 id] w fun e w' => e = .returned (.int .i64 3) ∧ New w w' := by
  have cB := hb.cells
  have kt : (id != id) = false := by simp
  go_enter Tryz.func84, Tryz.ntmps84
  go_wp2_with fail
  refine (epoch_no me _ hme).mono ?_
  rintro e w1 ⟨rfl, hwz⟩
  obtain rfl := hwz.symm
  go_wp2
  go_ret
  exact ⟨rfl, New.refl _⟩

set_option maxHeartbeats 1600000 in
theorem ff41 (id : Int) (B : Nat) (me at1 pr : Int) (has : Bool) (ee ki pe : Int) (a : Option Addr) (m c1 : Nat) (w : World) (hb : Blk w B 115 #[.int .i64 1, .int .i64 id, .int .i64 me, .int .i64 at1, .int .i64 pr, .bool has, .int .i64 ee, .int .i64 ki, .int .i64 pe, .slice a m c1]) (hm : m ≤ 1048576) (hme : 1 ≤ me ∧ me ≤ 1000) (h1 : at1 < 0) :
    Calls Tryz.prog 84 #[.pointer (some ⟨B, 0, none⟩), .int .i64 id] w fun e w' => e = .returned (.int .i64 3) ∧ New w w' := by
  have cB := hb.cells
  have kt : (id != id) = false := by simp
  go_enter Tryz.func84, Tryz.ntmps84
  go_wp2_with fail
  refine (epoch_yes me _ hme).mono ?_
  rintro e w1 ⟨rfl, hwz⟩
  obtain rfl := hwz.symm
  go_wp2
  go_ret
  exact ⟨rfl, New.refl _⟩

set_option maxHeartbeats 1600000 in
theorem ff51 (id : Int) (B : Nat) (me at1 pr : Int) (has : Bool) (ee ki pe : Int) (a : Option Addr) (m c1 : Nat) (w : World) (hb : Blk w B 115 #[.int .i64 1, .int .i64 id, .int .i64 me, .int .i64 at1, .int .i64 pr, .bool has, .int .i64 ee, .int .i64 ki, .int .i64 pe, .slice a m c1]) (hm : m ≤ 1048576) (hme : 1 ≤ me ∧ me ≤ 1000) (h1 : 0 ≤ at1) (h2 : 100 < at1) :
    Calls Tryz.prog 84 #[.pointer (some ⟨B, 0, none⟩), .int .i64 id] w fun e w' => e = .returned (.int .i64 3) ∧ New w w' := by
  have cB := hb.cells
  have kt : (id != id) = false := by simp
  go_enter Tryz.func84, Tryz.ntmps84
  go_wp2_with fail
  refine (epoch_yes me _ hme).mono ?_
  rintro e w1 ⟨rfl, hwz⟩
  obtain rfl := hwz.symm
  go_wp2
  go_ret
  exact ⟨rfl, New.refl _⟩

set_option maxHeartbeats 1600000 in
theorem ff61 (id : Int) (B : Nat) (me at1 pr : Int) (has : Bool) (ee ki pe : Int) (a : Option Addr) (m c1 : Nat) (w : World) (hb : Blk w B 115 #[.int .i64 1, .int .i64 id, .int .i64 me, .int .i64 at1, .int .i64 pr, .bool has, .int .i64 ee, .int .i64 ki, .int .i64 pe, .slice a m c1]) (hm : m ≤ 1048576) (hme : 1 ≤ me ∧ me ≤ 1000) (h1 : 0 ≤ at1) (h2 : at1 ≤ 100) (h3 : pr < 0) :
    Calls Tryz.prog 84 #[.pointer (some ⟨B, 0, none⟩), .int .i64 id] w fun e w' => e = .returned (.int .i64 3) ∧ New w w' := by
  have cB := hb.cells
  have kt : (id != id) = false := by simp
  go_enter Tryz.func84, Tryz.ntmps84
  go_wp2_with fail
  refine (epoch_yes me _ hme).mono ?_
  rintro e w1 ⟨rfl, hwz⟩
  obtain rfl := hwz.symm
  go_wp2
  go_ret
  exact ⟨rfl, New.refl _⟩

set_option maxHeartbeats 1600000 in
theorem ff71 (id : Int) (B : Nat) (me at1 pr : Int) (has : Bool) (ee ki pe : Int) (a : Option Addr) (m c1 : Nat) (w : World) (hb : Blk w B 115 #[.int .i64 1, .int .i64 id, .int .i64 me, .int .i64 at1, .int .i64 pr, .bool has, .int .i64 ee, .int .i64 ki, .int .i64 pe, .slice a m c1]) (hm : m ≤ 1048576) (hme : 1 ≤ me ∧ me ≤ 1000) (h1 : 0 ≤ at1) (h2 : at1 ≤ 100) (h3 : 0 ≤ pr) (h4 : 1000 < pr) :
    Calls Tryz.prog 84 #[.pointer (some ⟨B, 0, none⟩), .int .i64 id] w fun e w' => e = .returned (.int .i64 3) ∧ New w w' := by
  have cB := hb.cells
  have kt : (id != id) = false := by simp
  go_enter Tryz.func84, Tryz.ntmps84
  go_wp2_with fail
  refine (epoch_yes me _ hme).mono ?_
  rintro e w1 ⟨rfl, hwz⟩
  obtain rfl := hwz.symm
  go_wp2
  go_ret
  exact ⟨rfl, New.refl _⟩

set_option maxHeartbeats 1600000 in
theorem ff81 (id : Int) (B : Nat) (me at1 pr : Int) (has : Bool) (ee ki pe : Int) (a : Option Addr) (m c1 : Nat) (w : World) (hb : Blk w B 115 #[.int .i64 1, .int .i64 id, .int .i64 me, .int .i64 at1, .int .i64 pr, .bool has, .int .i64 ee, .int .i64 ki, .int .i64 pe, .slice a m c1]) (hm : m ≤ 1048576) (hme : 1 ≤ me ∧ me ≤ 1000) (h1 : 0 ≤ at1) (h2 : at1 ≤ 100) (h3 : 0 ≤ pr) (h4 : pr ≤ 1000) (hf : ¬ Fp 1 me at1 pr) :
    Calls Tryz.prog 84 #[.pointer (some ⟨B, 0, none⟩), .int .i64 id] w fun e w' => e = .returned (.int .i64 1) ∧ New w w' := by
  have cB := hb.cells
  have kt : (id != id) = false := by simp
  go_enter Tryz.func84, Tryz.ntmps84
  go_wp2_with fail
  refine (epoch_yes me _ hme).mono ?_
  rintro e w1 ⟨rfl, hwz⟩
  obtain rfl := hwz.symm
  go_wp2_with fail
  refine (fits_n B 1 id me at1 pr has ee ki pe a m c1 _ hb hf).mono ?_
  rintro e w2 ⟨rfl, hn2⟩
  go_wp2
  go_ret
  exact ⟨rfl, hn2⟩

set_option maxHeartbeats 1600000 in
theorem ff91 (id : Int) (B : Nat) (me at1 pr : Int) (ee ki pe : Int) (a : Option Addr) (m c1 : Nat) (w : World) (hb : Blk w B 115 #[.int .i64 1, .int .i64 id, .int .i64 me, .int .i64 at1, .int .i64 pr, .bool true, .int .i64 ee, .int .i64 ki, .int .i64 pe, .slice a m c1]) (hm : m ≤ 1048576) (hme : 1 ≤ me ∧ me ≤ 1000) (h1 : 0 ≤ at1) (h2 : at1 ≤ 100) (h3 : 0 ≤ pr) (h4 : pr ≤ 1000) (hf : Fp 1 me at1 pr) (v : Int) (hv : efF me pr ee ki pe m = v) :
    Calls Tryz.prog 84 #[.pointer (some ⟨B, 0, none⟩), .int .i64 id] w fun e w' => e = .returned (.int .i64 v) ∧ New w w' := by
  have cB := hb.cells
  have kt : (id != id) = false := by simp
  go_enter Tryz.func84, Tryz.ntmps84
  go_wp2_with fail
  refine (epoch_yes me _ hme).mono ?_
  rintro e w1 ⟨rfl, hwz⟩
  obtain rfl := hwz.symm
  go_wp2_with fail
  refine (fits_y B 1 id me at1 pr true ee ki pe a m c1 _ hb hf (by omega)).mono ?_
  rintro e w2 ⟨rfl, hn2⟩
  have b2 := hb.new hn2
  have c2 := b2.cells
  go_wp2_with fail
  refine (eF_any B 1 id me at1 pr true ee ki pe a m c1 _ b2 hm).mono ?_
  rintro e w3 ⟨rfl, hn3⟩
  rw [hv]
  go_wp2
  go_ret
  exact ⟨rfl, hn2.trans hn3⟩

set_option maxHeartbeats 1600000 in
theorem ffa1 (id : Int) (B : Nat) (me at1 pr : Int) (a : Option Addr) (c1 : Nat) (w : World) (hb : Blk w B 115 #[.int .i64 1, .int .i64 id, .int .i64 me, .int .i64 at1, .int .i64 pr, .bool false, .int .i64 0, .int .i64 0, .int .i64 0, .slice a 0 c1])  (hme : 1 ≤ me ∧ me ≤ 1000) (h1 : 0 ≤ at1) (h2 : at1 ≤ 100) (h3 : 0 ≤ pr) (h4 : pr ≤ 1000) (hf : Fp 1 me at1 pr) :
    Calls Tryz.prog 84 #[.pointer (some ⟨B, 0, none⟩), .int .i64 id] w fun e w' => e = .returned (.int .i64 0) ∧ New w w' := by
  have cB := hb.cells
  have kt : (id != id) = false := by simp
  go_enter Tryz.func84, Tryz.ntmps84
  go_wp2_with fail
  refine (epoch_yes me _ hme).mono ?_
  rintro e w1 ⟨rfl, hwz⟩
  obtain rfl := hwz.symm
  go_wp2_with fail
  refine (fits_y B 1 id me at1 pr false 0 0 0 a 0 c1 _ hb hf (by omega)).mono ?_
  rintro e w2 ⟨rfl, hn2⟩
  have b2 := hb.new hn2
  have c2 := b2.cells
  go_wp2_with fail
  refine (nz_yes a c1 _).mono ?_
  rintro e w3 ⟨rfl, hn3⟩
  go_wp2
  go_ret
  exact ⟨rfl, hn2.trans hn3⟩

set_option maxHeartbeats 1600000 in
theorem ffb1 (id : Int) (B : Nat) (me at1 pr : Int) (ee ki pe : Int) (a : Option Addr) (m c1 : Nat) (w : World) (hb : Blk w B 115 #[.int .i64 1, .int .i64 id, .int .i64 me, .int .i64 at1, .int .i64 pr, .bool false, .int .i64 ee, .int .i64 ki, .int .i64 pe, .slice a m c1]) (hm : m ≤ 1048576) (hme : 1 ≤ me ∧ me ≤ 1000) (h1 : 0 ≤ at1) (h2 : at1 ≤ 100) (h3 : 0 ≤ pr) (h4 : pr ≤ 1000) (hf : Fp 1 me at1 pr) (hz : ¬ Zr ee ki pe m) :
    Calls Tryz.prog 84 #[.pointer (some ⟨B, 0, none⟩), .int .i64 id] w fun e w' => e = .returned (.int .i64 1) ∧ New w w' := by
  have cB := hb.cells
  have kt : (id != id) = false := by simp
  go_enter Tryz.func84, Tryz.ntmps84
  go_wp2_with fail
  refine (epoch_yes me _ hme).mono ?_
  rintro e w1 ⟨rfl, hwz⟩
  obtain rfl := hwz.symm
  go_wp2_with fail
  refine (fits_y B 1 id me at1 pr false ee ki pe a m c1 _ hb hf (by omega)).mono ?_
  rintro e w2 ⟨rfl, hn2⟩
  have b2 := hb.new hn2
  have c2 := b2.cells
  go_wp2_with fail
  refine (nz_no ee ki pe a m c1 _ hm hz).mono ?_
  rintro e w3 ⟨rfl, hn3⟩
  go_wp2
  go_ret
  exact ⟨rfl, hn2.trans hn3⟩

set_option maxHeartbeats 1600000 in
theorem ff22 (id : Int) (B : Nat) (tgt me at1 pr : Int) (has : Bool) (ee ki pe : Int) (a : Option Addr) (m c1 : Nat) (w : World) (hb : Blk w B 115 #[.int .i64 2, .int .i64 tgt, .int .i64 me, .int .i64 at1, .int .i64 pr, .bool has, .int .i64 ee, .int .i64 ki, .int .i64 pe, .slice a m c1]) (hm : m ≤ 1048576) (ht : ¬ tgt = id) :
    Calls Tryz.prog 84 #[.pointer (some ⟨B, 0, none⟩), .int .i64 id] w fun e w' => e = .returned (.int .i64 1) ∧ New w w' := by
  have cB := hb.cells
  have kt : (tgt != id) = true := by simp [ht]
  go_enter Tryz.func84, Tryz.ntmps84
  go_wp2
  go_ret
  exact ⟨rfl, New.refl _⟩

set_option maxHeartbeats 1600000 in
theorem ff32 (id : Int) (B : Nat) (me at1 pr : Int) (has : Bool) (ee ki pe : Int) (a : Option Addr) (m c1 : Nat) (w : World) (hb : Blk w B 115 #[.int .i64 2, .int .i64 id, .int .i64 me, .int .i64 at1, .int .i64 pr, .bool has, .int .i64 ee, .int .i64 ki, .int .i64 pe, .slice a m c1]) (hm : m ≤ 1048576) (hme : me < 1 ∨ 1000 < me) :
    Calls Tryz.prog 84 #[.pointer (some ⟨B, 0, none⟩), .int .i64 id] w fun e w' => e = .returned (.int .i64 3) ∧ New w w' := by
  have cB := hb.cells
  have kt : (id != id) = false := by simp
  go_enter Tryz.func84, Tryz.ntmps84
  go_wp2_with fail
  refine (epoch_no me _ hme).mono ?_
  rintro e w1 ⟨rfl, hwz⟩
  obtain rfl := hwz.symm
  go_wp2
  go_ret
  exact ⟨rfl, New.refl _⟩

set_option maxHeartbeats 1600000 in
theorem ff42 (id : Int) (B : Nat) (me at1 pr : Int) (has : Bool) (ee ki pe : Int) (a : Option Addr) (m c1 : Nat) (w : World) (hb : Blk w B 115 #[.int .i64 2, .int .i64 id, .int .i64 me, .int .i64 at1, .int .i64 pr, .bool has, .int .i64 ee, .int .i64 ki, .int .i64 pe, .slice a m c1]) (hm : m ≤ 1048576) (hme : 1 ≤ me ∧ me ≤ 1000) (h1 : at1 < 0) :
    Calls Tryz.prog 84 #[.pointer (some ⟨B, 0, none⟩), .int .i64 id] w fun e w' => e = .returned (.int .i64 3) ∧ New w w' := by
  have cB := hb.cells
  have kt : (id != id) = false := by simp
  go_enter Tryz.func84, Tryz.ntmps84
  go_wp2_with fail
  refine (epoch_yes me _ hme).mono ?_
  rintro e w1 ⟨rfl, hwz⟩
  obtain rfl := hwz.symm
  go_wp2
  go_ret
  exact ⟨rfl, New.refl _⟩

set_option maxHeartbeats 1600000 in
theorem ff52 (id : Int) (B : Nat) (me at1 pr : Int) (has : Bool) (ee ki pe : Int) (a : Option Addr) (m c1 : Nat) (w : World) (hb : Blk w B 115 #[.int .i64 2, .int .i64 id, .int .i64 me, .int .i64 at1, .int .i64 pr, .bool has, .int .i64 ee, .int .i64 ki, .int .i64 pe, .slice a m c1]) (hm : m ≤ 1048576) (hme : 1 ≤ me ∧ me ≤ 1000) (h1 : 0 ≤ at1) (h2 : 100 < at1) :
    Calls Tryz.prog 84 #[.pointer (some ⟨B, 0, none⟩), .int .i64 id] w fun e w' => e = .returned (.int .i64 3) ∧ New w w' := by
  have cB := hb.cells
  have kt : (id != id) = false := by simp
  go_enter Tryz.func84, Tryz.ntmps84
  go_wp2_with fail
  refine (epoch_yes me _ hme).mono ?_
  rintro e w1 ⟨rfl, hwz⟩
  obtain rfl := hwz.symm
  go_wp2
  go_ret
  exact ⟨rfl, New.refl _⟩

set_option maxHeartbeats 1600000 in
theorem ff62 (id : Int) (B : Nat) (me at1 pr : Int) (has : Bool) (ee ki pe : Int) (a : Option Addr) (m c1 : Nat) (w : World) (hb : Blk w B 115 #[.int .i64 2, .int .i64 id, .int .i64 me, .int .i64 at1, .int .i64 pr, .bool has, .int .i64 ee, .int .i64 ki, .int .i64 pe, .slice a m c1]) (hm : m ≤ 1048576) (hme : 1 ≤ me ∧ me ≤ 1000) (h1 : 0 ≤ at1) (h2 : at1 ≤ 100) (h3 : pr < 0) :
    Calls Tryz.prog 84 #[.pointer (some ⟨B, 0, none⟩), .int .i64 id] w fun e w' => e = .returned (.int .i64 3) ∧ New w w' := by
  have cB := hb.cells
  have kt : (id != id) = false := by simp
  go_enter Tryz.func84, Tryz.ntmps84
  go_wp2_with fail
  refine (epoch_yes me _ hme).mono ?_
  rintro e w1 ⟨rfl, hwz⟩
  obtain rfl := hwz.symm
  go_wp2
  go_ret
  exact ⟨rfl, New.refl _⟩

set_option maxHeartbeats 1600000 in
theorem ff72 (id : Int) (B : Nat) (me at1 pr : Int) (has : Bool) (ee ki pe : Int) (a : Option Addr) (m c1 : Nat) (w : World) (hb : Blk w B 115 #[.int .i64 2, .int .i64 id, .int .i64 me, .int .i64 at1, .int .i64 pr, .bool has, .int .i64 ee, .int .i64 ki, .int .i64 pe, .slice a m c1]) (hm : m ≤ 1048576) (hme : 1 ≤ me ∧ me ≤ 1000) (h1 : 0 ≤ at1) (h2 : at1 ≤ 100) (h3 : 0 ≤ pr) (h4 : 1000 < pr) :
    Calls Tryz.prog 84 #[.pointer (some ⟨B, 0, none⟩), .int .i64 id] w fun e w' => e = .returned (.int .i64 3) ∧ New w w' := by
  have cB := hb.cells
  have kt : (id != id) = false := by simp
  go_enter Tryz.func84, Tryz.ntmps84
  go_wp2_with fail
  refine (epoch_yes me _ hme).mono ?_
  rintro e w1 ⟨rfl, hwz⟩
  obtain rfl := hwz.symm
  go_wp2
  go_ret
  exact ⟨rfl, New.refl _⟩

set_option maxHeartbeats 1600000 in
theorem ff82 (id : Int) (B : Nat) (me at1 pr : Int) (has : Bool) (ee ki pe : Int) (a : Option Addr) (m c1 : Nat) (w : World) (hb : Blk w B 115 #[.int .i64 2, .int .i64 id, .int .i64 me, .int .i64 at1, .int .i64 pr, .bool has, .int .i64 ee, .int .i64 ki, .int .i64 pe, .slice a m c1]) (hm : m ≤ 1048576) (hme : 1 ≤ me ∧ me ≤ 1000) (h1 : 0 ≤ at1) (h2 : at1 ≤ 100) (h3 : 0 ≤ pr) (h4 : pr ≤ 1000) (hf : ¬ Fp 2 me at1 pr) :
    Calls Tryz.prog 84 #[.pointer (some ⟨B, 0, none⟩), .int .i64 id] w fun e w' => e = .returned (.int .i64 1) ∧ New w w' := by
  have cB := hb.cells
  have kt : (id != id) = false := by simp
  go_enter Tryz.func84, Tryz.ntmps84
  go_wp2_with fail
  refine (epoch_yes me _ hme).mono ?_
  rintro e w1 ⟨rfl, hwz⟩
  obtain rfl := hwz.symm
  go_wp2_with fail
  refine (fits_n B 2 id me at1 pr has ee ki pe a m c1 _ hb hf).mono ?_
  rintro e w2 ⟨rfl, hn2⟩
  go_wp2
  go_ret
  exact ⟨rfl, hn2⟩

set_option maxHeartbeats 1600000 in
theorem ff92 (id : Int) (B : Nat) (me at1 pr : Int) (ee ki pe : Int) (a : Option Addr) (m c1 : Nat) (w : World) (hb : Blk w B 115 #[.int .i64 2, .int .i64 id, .int .i64 me, .int .i64 at1, .int .i64 pr, .bool true, .int .i64 ee, .int .i64 ki, .int .i64 pe, .slice a m c1]) (hm : m ≤ 1048576) (hme : 1 ≤ me ∧ me ≤ 1000) (h1 : 0 ≤ at1) (h2 : at1 ≤ 100) (h3 : 0 ≤ pr) (h4 : pr ≤ 1000) (hf : Fp 2 me at1 pr) :
    Calls Tryz.prog 84 #[.pointer (some ⟨B, 0, none⟩), .int .i64 id] w fun e w' => e = .returned (.int .i64 1) ∧ New w w' := by
  have cB := hb.cells
  have kt : (id != id) = false := by simp
  go_enter Tryz.func84, Tryz.ntmps84
  go_wp2_with fail
  refine (epoch_yes me _ hme).mono ?_
  rintro e w1 ⟨rfl, hwz⟩
  obtain rfl := hwz.symm
  go_wp2_with fail
  refine (fits_y B 2 id me at1 pr true ee ki pe a m c1 _ hb hf (by omega)).mono ?_
  rintro e w2 ⟨rfl, hn2⟩
  have b2 := hb.new hn2
  have c2 := b2.cells
  go_wp2
  go_ret
  exact ⟨rfl, hn2⟩

set_option maxHeartbeats 1600000 in
theorem ffa2 (id : Int) (B : Nat) (me at1 pr : Int) (a : Option Addr) (c1 : Nat) (w : World) (hb : Blk w B 115 #[.int .i64 2, .int .i64 id, .int .i64 me, .int .i64 at1, .int .i64 pr, .bool false, .int .i64 0, .int .i64 0, .int .i64 0, .slice a 0 c1])  (hme : 1 ≤ me ∧ me ≤ 1000) (h1 : 0 ≤ at1) (h2 : at1 ≤ 100) (h3 : 0 ≤ pr) (h4 : pr ≤ 1000) (hf : Fp 2 me at1 pr) :
    Calls Tryz.prog 84 #[.pointer (some ⟨B, 0, none⟩), .int .i64 id] w fun e w' => e = .returned (.int .i64 0) ∧ New w w' := by
  have cB := hb.cells
  have kt : (id != id) = false := by simp
  go_enter Tryz.func84, Tryz.ntmps84
  go_wp2_with fail
  refine (epoch_yes me _ hme).mono ?_
  rintro e w1 ⟨rfl, hwz⟩
  obtain rfl := hwz.symm
  go_wp2_with fail
  refine (fits_y B 2 id me at1 pr false 0 0 0 a 0 c1 _ hb hf (by omega)).mono ?_
  rintro e w2 ⟨rfl, hn2⟩
  have b2 := hb.new hn2
  have c2 := b2.cells
  go_wp2_with fail
  refine (nz_yes a c1 _).mono ?_
  rintro e w3 ⟨rfl, hn3⟩
  go_wp2
  go_ret
  exact ⟨rfl, hn2.trans hn3⟩

set_option maxHeartbeats 1600000 in
theorem ffb2 (id : Int) (B : Nat) (me at1 pr : Int) (ee ki pe : Int) (a : Option Addr) (m c1 : Nat) (w : World) (hb : Blk w B 115 #[.int .i64 2, .int .i64 id, .int .i64 me, .int .i64 at1, .int .i64 pr, .bool false, .int .i64 ee, .int .i64 ki, .int .i64 pe, .slice a m c1]) (hm : m ≤ 1048576) (hme : 1 ≤ me ∧ me ≤ 1000) (h1 : 0 ≤ at1) (h2 : at1 ≤ 100) (h3 : 0 ≤ pr) (h4 : pr ≤ 1000) (hf : Fp 2 me at1 pr) (hz : ¬ Zr ee ki pe m) :
    Calls Tryz.prog 84 #[.pointer (some ⟨B, 0, none⟩), .int .i64 id] w fun e w' => e = .returned (.int .i64 1) ∧ New w w' := by
  have cB := hb.cells
  have kt : (id != id) = false := by simp
  go_enter Tryz.func84, Tryz.ntmps84
  go_wp2_with fail
  refine (epoch_yes me _ hme).mono ?_
  rintro e w1 ⟨rfl, hwz⟩
  obtain rfl := hwz.symm
  go_wp2_with fail
  refine (fits_y B 2 id me at1 pr false ee ki pe a m c1 _ hb hf (by omega)).mono ?_
  rintro e w2 ⟨rfl, hn2⟩
  have b2 := hb.new hn2
  have c2 := b2.cells
  go_wp2_with fail
  refine (nz_no ee ki pe a m c1 _ hm hz).mono ?_
  rintro e w3 ⟨rfl, hn3⟩
  go_wp2
  go_ret
  exact ⟨rfl, hn2.trans hn3⟩

theorem fFor_any (id : Int) (B : Nat) (kd tgt me at1 pr : Int) (has : Bool) (ee ki pe : Int) (a : Option Addr) (m c1 : Nat) (w : World) (hb : Blk w B 115 #[.int .i64 kd, .int .i64 tgt, .int .i64 me, .int .i64 at1, .int .i64 pr, .bool has, .int .i64 ee, .int .i64 ki, .int .i64 pe, .slice a m c1]) (hm : m ≤ 1048576) :
    Calls Tryz.prog 84 #[.pointer (some ⟨B, 0, none⟩), .int .i64 id] w fun e w' => e = .returned (.int .i64 (mlF id kd tgt me at1 pr has ee ki pe m)) ∧ New w w' := by
  unfold mlF
  by_cases hk : kd = 1 ∨ kd = 2
  case neg => rw [if_pos (fun k => hk k.1)]; exact ff1 id B kd tgt me at1 pr has ee ki pe a m c1 w hb hm (fun e => hk (.inl e)) (fun e => hk (.inr e))
  by_cases ht : tgt = id
  case neg =>
    rw [if_pos (fun k => ht k.2)]
    rcases hk with rfl | rfl
    · exact ff21 id B tgt me at1 pr has ee ki pe a m c1 w hb hm ht
    · exact ff22 id B tgt me at1 pr has ee ki pe a m c1 w hb hm ht
  rw [if_neg (fun k => k ⟨hk, ht⟩)]
  subst ht
  by_cases hme : 1 ≤ me ∧ me ≤ 1000
  case neg => rw [if_pos (fun k => hme k.1)]; (rcases hk with rfl | rfl; exact ff31 tgt B me at1 pr has ee ki pe a m c1 w hb hm (by omega); exact ff32 tgt B me at1 pr has ee ki pe a m c1 w hb hm (by omega))
  by_cases h1 : 0 ≤ at1
  case neg => rw [if_pos (fun k => h1 k.2.1.1)]; (rcases hk with rfl | rfl; exact ff41 tgt B me at1 pr has ee ki pe a m c1 w hb hm hme (by omega); exact ff42 tgt B me at1 pr has ee ki pe a m c1 w hb hm hme (by omega))
  by_cases h2 : at1 ≤ 100
  case neg => rw [if_pos (fun k => h2 k.2.1.2)]; (rcases hk with rfl | rfl; exact ff51 tgt B me at1 pr has ee ki pe a m c1 w hb hm hme h1 (by omega); exact ff52 tgt B me at1 pr has ee ki pe a m c1 w hb hm hme h1 (by omega))
  by_cases h3 : 0 ≤ pr
  case neg => rw [if_pos (fun k => h3 k.2.2.1)]; (rcases hk with rfl | rfl; exact ff61 tgt B me at1 pr has ee ki pe a m c1 w hb hm hme h1 h2 (by omega); exact ff62 tgt B me at1 pr has ee ki pe a m c1 w hb hm hme h1 h2 (by omega))
  by_cases h4 : pr ≤ 1000
  case neg => rw [if_pos (fun k => h4 k.2.2.2)]; (rcases hk with rfl | rfl; exact ff71 tgt B me at1 pr has ee ki pe a m c1 w hb hm hme h1 h2 h3 (by omega); exact ff72 tgt B me at1 pr has ee ki pe a m c1 w hb hm hme h1 h2 h3 (by omega))
  rw [if_neg (fun k => k ⟨hme, ⟨h1, h2⟩, h3, h4⟩)]
  by_cases hf : (kd = 2 → pr = 0) ∧ (kd ≠ 2 → ((at1 = 0 → pr = 0) ∧ (pr = 0 → at1 = 0)) ∧ pr ≤ me)
  case neg => rw [if_pos hf]; (rcases hk with rfl | rfl; exact ff81 tgt B me at1 pr has ee ki pe a m c1 w hb hm hme h1 h2 h3 h4 hf; exact ff82 tgt B me at1 pr has ee ki pe a m c1 w hb hm hme h1 h2 h3 h4 hf)
  rw [if_neg (fun k => k hf)]
  cases has with
  | true =>
    rcases hk with rfl | rfl
    · rw [if_pos ⟨rfl, rfl⟩]; exact ff91 tgt B me at1 pr ee ki pe a m c1 w hb hm hme h1 h2 h3 h4 hf _ rfl
    · rw [if_neg (by omega), if_pos (.inl rfl)]; exact ff92 tgt B me at1 pr ee ki pe a m c1 w hb hm hme h1 h2 h3 h4 hf
  | false =>
    rw [if_neg (by simp)]
    by_cases hz : ee = 0 ∧ ki = 0 ∧ pe = 0 ∧ m = 0
    · rw [if_neg (fun k => by rcases k with k | k; cases k; exact k hz)]
      obtain ⟨rfl, rfl, rfl, rfl⟩ := hz
      rcases hk with rfl | rfl
      · exact ffa1 tgt B me at1 pr a c1 w hb hme h1 h2 h3 h4 hf
      · exact ffa2 tgt B me at1 pr a c1 w hb hme h1 h2 h3 h4 hf
    · rw [if_pos (.inr hz)]
      rcases hk with rfl | rfl
      · exact ffb1 tgt B me at1 pr ee ki pe a m c1 w hb hm hme h1 h2 h3 h4 hf hz
      · exact ffb2 tgt B me at1 pr ee ki pe a m c1 w hb hm hme h1 h2 h3 h4 hf hz

end Go.Proofs.YtlkhmnjghdbmoaaGreatDoor

namespace Go.Proofs.YtlkhmnjghdbmoaaGreatDoor
open Go.RowKit Go.Sort
set_option linter.unusedVariables false
set_option linter.unusedSimpArgs false
set_option maxRecDepth 100000

theorem sz_yes (a : Option Addr) (c1 : Nat) (w : World) : Calls Tryz.prog 121 #[.agg #[.int .i64 0, .int .i64 0, .int .i64 0, .slice a 0 c1]] w fun e w' => e = .returned (.bool true) ∧ New w w' := by
  go_enter Tryz.func121, Tryz.ntmps121
  go_wp2
  go_ret
  exact ⟨rfl, (New.refl w).alloc _⟩
theorem sz_no (ee ki pe : Int) (a : Option Addr) (m c1 : Nat) (w : World) (hm : m ≤ 1048576) (h : ¬ Zr ee ki pe m) : Calls Tryz.prog 121 #[.agg #[.int .i64 ee, .int .i64 ki, .int .i64 pe, .slice a m c1]] w fun e w' => e = .returned (.bool false) ∧ New w w' := by
  by_cases h1 : ee = 0
  case neg =>
    have g : (ee == 0) = false := by simp [h1]
    clear h
    go_enter Tryz.func121, Tryz.ntmps121
    go_wp2
    go_ret
    exact ⟨rfl, (New.refl w).alloc _⟩
  by_cases h2 : ki = 0
  case neg =>
    have g : (ki == 0) = false := by simp [h2]
    clear h
    subst h1
    go_enter Tryz.func121, Tryz.ntmps121
    go_wp2
    go_ret
    exact ⟨rfl, (New.refl w).alloc _⟩
  by_cases h3 : pe = 0
  case neg =>
    have g : (pe == 0) = false := by simp [h3]
    clear h
    subst h1 h2
    go_enter Tryz.func121, Tryz.ntmps121
    go_wp2
    go_ret
    exact ⟨rfl, (New.refl w).alloc _⟩
  have h4 : ¬ m = 0 := fun e => h ⟨h1, h2, h3, e⟩
  have g : ((m : Int) == 0) = false := by simp [h4]
  clear h
  subst h1 h2 h3
  go_enter Tryz.func121, Tryz.ntmps121
  go_wp2
  go_ret
  exact ⟨rfl, (New.refl w).alloc _⟩

set_option maxHeartbeats 800000 in
theorem fo1 (tgt me at1 pr : Int) (ee ki pe : Int) (a : Option Addr) (m c1 : Nat) (w : World) (hm : m ≤ 1048576) :
    Calls Tryz.prog 98 #[.agg #[.int .i64 2, .int .i64 tgt, .int .i64 me, .int .i64 at1, .int .i64 pr, .bool true, .int .i64 ee, .int .i64 ki, .int .i64 pe, .slice a m c1]] w fun e w' => e = .returned (.bool false) ∧ New w w' := by
  have hw := (New.refl w).alloc (.cells #[.int .i64 2, .int .i64 tgt, .int .i64 me, .int .i64 at1, .int .i64 pr, .bool true, .int .i64 ee, .int .i64 ki, .int .i64 pe, .slice a m c1] 115)
  have b1 := Blk.mk w w.heap.size 115 #[.int .i64 2, .int .i64 tgt, .int .i64 me, .int .i64 at1, .int .i64 pr, .bool true, .int .i64 ee, .int .i64 ki, .int .i64 pe, .slice a m c1] rfl
  go_enter Tryz.func98, Tryz.ntmps98
  go_wp2
  go_ret
  exact ⟨rfl, hw⟩

set_option maxHeartbeats 800000 in
theorem fo2 (tgt me at1 pr : Int) (ee ki pe : Int) (a : Option Addr) (m c1 : Nat) (w : World) (hm : m ≤ 1048576) (hpr : ¬ pr = 0) :
    Calls Tryz.prog 98 #[.agg #[.int .i64 2, .int .i64 tgt, .int .i64 me, .int .i64 at1, .int .i64 pr, .bool false, .int .i64 ee, .int .i64 ki, .int .i64 pe, .slice a m c1]] w fun e w' => e = .returned (.bool false) ∧ New w w' := by
  have hw := (New.refl w).alloc (.cells #[.int .i64 2, .int .i64 tgt, .int .i64 me, .int .i64 at1, .int .i64 pr, .bool false, .int .i64 ee, .int .i64 ki, .int .i64 pe, .slice a m c1] 115)
  have b1 := Blk.mk w w.heap.size 115 #[.int .i64 2, .int .i64 tgt, .int .i64 me, .int .i64 at1, .int .i64 pr, .bool false, .int .i64 ee, .int .i64 ki, .int .i64 pe, .slice a m c1] rfl
  have gpr : (pr == 0) = false := by simp [hpr]
  go_enter Tryz.func98, Tryz.ntmps98
  go_wp2
  go_ret
  exact ⟨rfl, hw⟩

set_option maxHeartbeats 800000 in
theorem fo3 (tgt me at1 : Int) (ee ki pe : Int) (a : Option Addr) (m c1 : Nat) (w : World) (hm : m ≤ 1048576) (hz : ¬ Zr ee ki pe m) :
    Calls Tryz.prog 98 #[.agg #[.int .i64 2, .int .i64 tgt, .int .i64 me, .int .i64 at1, .int .i64 0, .bool false, .int .i64 ee, .int .i64 ki, .int .i64 pe, .slice a m c1]] w fun e w' => e = .returned (.bool false) ∧ New w w' := by
  have hw := (New.refl w).alloc (.cells #[.int .i64 2, .int .i64 tgt, .int .i64 me, .int .i64 at1, .int .i64 0, .bool false, .int .i64 ee, .int .i64 ki, .int .i64 pe, .slice a m c1] 115)
  have b1 := Blk.mk w w.heap.size 115 #[.int .i64 2, .int .i64 tgt, .int .i64 me, .int .i64 at1, .int .i64 0, .bool false, .int .i64 ee, .int .i64 ki, .int .i64 pe, .slice a m c1] rfl
  go_enter Tryz.func98, Tryz.ntmps98
  go_wp2_with fail
  refine (sz_no ee ki pe a m c1 _ hm hz).mono ?_
  rintro e w1 ⟨rfl, hn1⟩
  have c1x := (b1.new hn1).cells
  go_wp2
  go_ret
  exact ⟨rfl, hw.trans hn1⟩

set_option maxHeartbeats 800000 in
theorem fo4 (tgt me at1 : Int) (a : Option Addr) (c1 : Nat) (w : World) :
    Calls Tryz.prog 98 #[.agg #[.int .i64 2, .int .i64 tgt, .int .i64 me, .int .i64 at1, .int .i64 0, .bool false, .int .i64 0, .int .i64 0, .int .i64 0, .slice a 0 c1]] w fun e w' => e = .returned (.bool true) ∧ New w w' := by
  have hw := (New.refl w).alloc (.cells #[.int .i64 2, .int .i64 tgt, .int .i64 me, .int .i64 at1, .int .i64 0, .bool false, .int .i64 0, .int .i64 0, .int .i64 0, .slice a 0 c1] 115)
  have b1 := Blk.mk w w.heap.size 115 #[.int .i64 2, .int .i64 tgt, .int .i64 me, .int .i64 at1, .int .i64 0, .bool false, .int .i64 0, .int .i64 0, .int .i64 0, .slice a 0 c1] rfl
  go_enter Tryz.func98, Tryz.ntmps98
  go_wp2_with fail
  refine (sz_yes a c1 _).mono ?_
  rintro e w1 ⟨rfl, hn1⟩
  have c1x := (b1.new hn1).cells
  go_wp2
  go_ret
  exact ⟨rfl, hw.trans hn1⟩

set_option maxHeartbeats 800000 in
theorem fo5 (tgt me pr : Int) (has : Bool) (ee ki pe : Int) (a : Option Addr) (m c1 : Nat) (w : World) (hm : m ≤ 1048576) (hpr : ¬ pr = 0) :
    Calls Tryz.prog 98 #[.agg #[.int .i64 1, .int .i64 tgt, .int .i64 me, .int .i64 0, .int .i64 pr, .bool has, .int .i64 ee, .int .i64 ki, .int .i64 pe, .slice a m c1]] w fun e w' => e = .returned (.bool false) ∧ New w w' := by
  have hw := (New.refl w).alloc (.cells #[.int .i64 1, .int .i64 tgt, .int .i64 me, .int .i64 0, .int .i64 pr, .bool has, .int .i64 ee, .int .i64 ki, .int .i64 pe, .slice a m c1] 115)
  have b1 := Blk.mk w w.heap.size 115 #[.int .i64 1, .int .i64 tgt, .int .i64 me, .int .i64 0, .int .i64 pr, .bool has, .int .i64 ee, .int .i64 ki, .int .i64 pe, .slice a m c1] rfl
  have gpr : (pr == 0) = false := by simp [hpr]
  go_enter Tryz.func98, Tryz.ntmps98
  go_wp2
  go_ret
  exact ⟨rfl, hw⟩

set_option maxHeartbeats 800000 in
theorem fo6 (tgt me at1 : Int) (has : Bool) (ee ki pe : Int) (a : Option Addr) (m c1 : Nat) (w : World) (hm : m ≤ 1048576) (hat1 : ¬ at1 = 0) :
    Calls Tryz.prog 98 #[.agg #[.int .i64 1, .int .i64 tgt, .int .i64 me, .int .i64 at1, .int .i64 0, .bool has, .int .i64 ee, .int .i64 ki, .int .i64 pe, .slice a m c1]] w fun e w' => e = .returned (.bool false) ∧ New w w' := by
  have hw := (New.refl w).alloc (.cells #[.int .i64 1, .int .i64 tgt, .int .i64 me, .int .i64 at1, .int .i64 0, .bool has, .int .i64 ee, .int .i64 ki, .int .i64 pe, .slice a m c1] 115)
  have b1 := Blk.mk w w.heap.size 115 #[.int .i64 1, .int .i64 tgt, .int .i64 me, .int .i64 at1, .int .i64 0, .bool has, .int .i64 ee, .int .i64 ki, .int .i64 pe, .slice a m c1] rfl
  have gat1 : (at1 == 0) = false := by simp [hat1]
  go_enter Tryz.func98, Tryz.ntmps98
  go_wp2
  go_ret
  exact ⟨rfl, hw⟩

set_option maxHeartbeats 800000 in
theorem fo7 (tgt me : Int) (ee ki pe : Int) (a : Option Addr) (m c1 : Nat) (w : World) (hm : m ≤ 1048576) (hme : 0 ≤ me) :
    Calls Tryz.prog 98 #[.agg #[.int .i64 1, .int .i64 tgt, .int .i64 me, .int .i64 0, .int .i64 0, .bool true, .int .i64 ee, .int .i64 ki, .int .i64 pe, .slice a m c1]] w fun e w' => e = .returned (.bool true) ∧ New w w' := by
  have hw := (New.refl w).alloc (.cells #[.int .i64 1, .int .i64 tgt, .int .i64 me, .int .i64 0, .int .i64 0, .bool true, .int .i64 ee, .int .i64 ki, .int .i64 pe, .slice a m c1] 115)
  have b1 := Blk.mk w w.heap.size 115 #[.int .i64 1, .int .i64 tgt, .int .i64 me, .int .i64 0, .int .i64 0, .bool true, .int .i64 ee, .int .i64 ki, .int .i64 pe, .slice a m c1] rfl
  go_enter Tryz.func98, Tryz.ntmps98
  go_wp2
  go_ret
  exact ⟨rfl, hw⟩

set_option maxHeartbeats 800000 in
theorem fo8 (tgt me at1 pr : Int) (ee ki pe : Int) (a : Option Addr) (m c1 : Nat) (w : World) (hm : m ≤ 1048576) (hat1 : ¬ at1 = 0) (hpr : ¬ pr = 0) (hle : pr ≤ me) :
    Calls Tryz.prog 98 #[.agg #[.int .i64 1, .int .i64 tgt, .int .i64 me, .int .i64 at1, .int .i64 pr, .bool true, .int .i64 ee, .int .i64 ki, .int .i64 pe, .slice a m c1]] w fun e w' => e = .returned (.bool true) ∧ New w w' := by
  have hw := (New.refl w).alloc (.cells #[.int .i64 1, .int .i64 tgt, .int .i64 me, .int .i64 at1, .int .i64 pr, .bool true, .int .i64 ee, .int .i64 ki, .int .i64 pe, .slice a m c1] 115)
  have b1 := Blk.mk w w.heap.size 115 #[.int .i64 1, .int .i64 tgt, .int .i64 me, .int .i64 at1, .int .i64 pr, .bool true, .int .i64 ee, .int .i64 ki, .int .i64 pe, .slice a m c1] rfl
  have gat1 : (at1 == 0) = false := by simp [hat1]
  have gpr : (pr == 0) = false := by simp [hpr]
  go_enter Tryz.func98, Tryz.ntmps98
  go_wp2
  go_ret
  exact ⟨rfl, hw⟩

set_option maxHeartbeats 800000 in
theorem fo9 (tgt me at1 pr : Int) (ee ki pe : Int) (a : Option Addr) (m c1 : Nat) (w : World) (hm : m ≤ 1048576) (hat1 : ¬ at1 = 0) (hpr : ¬ pr = 0) (hle : ¬ pr ≤ me) :
    Calls Tryz.prog 98 #[.agg #[.int .i64 1, .int .i64 tgt, .int .i64 me, .int .i64 at1, .int .i64 pr, .bool true, .int .i64 ee, .int .i64 ki, .int .i64 pe, .slice a m c1]] w fun e w' => e = .returned (.bool false) ∧ New w w' := by
  have hw := (New.refl w).alloc (.cells #[.int .i64 1, .int .i64 tgt, .int .i64 me, .int .i64 at1, .int .i64 pr, .bool true, .int .i64 ee, .int .i64 ki, .int .i64 pe, .slice a m c1] 115)
  have b1 := Blk.mk w w.heap.size 115 #[.int .i64 1, .int .i64 tgt, .int .i64 me, .int .i64 at1, .int .i64 pr, .bool true, .int .i64 ee, .int .i64 ki, .int .i64 pe, .slice a m c1] rfl
  have gat1 : (at1 == 0) = false := by simp [hat1]
  have gpr : (pr == 0) = false := by simp [hpr]
  have gle : decide (pr ≤ me) = false := decide_eq_false hle
  go_enter Tryz.func98, Tryz.ntmps98
  go_wp2
  go_ret
  exact ⟨rfl, hw⟩

set_option maxHeartbeats 800000 in
theorem foA (tgt me : Int) (ee ki pe : Int) (a : Option Addr) (m c1 : Nat) (w : World) (hm : m ≤ 1048576) (hz : ¬ Zr ee ki pe m) :
    Calls Tryz.prog 98 #[.agg #[.int .i64 1, .int .i64 tgt, .int .i64 me, .int .i64 0, .int .i64 0, .bool false, .int .i64 ee, .int .i64 ki, .int .i64 pe, .slice a m c1]] w fun e w' => e = .returned (.bool false) ∧ New w w' := by
  have hw := (New.refl w).alloc (.cells #[.int .i64 1, .int .i64 tgt, .int .i64 me, .int .i64 0, .int .i64 0, .bool false, .int .i64 ee, .int .i64 ki, .int .i64 pe, .slice a m c1] 115)
  have b1 := Blk.mk w w.heap.size 115 #[.int .i64 1, .int .i64 tgt, .int .i64 me, .int .i64 0, .int .i64 0, .bool false, .int .i64 ee, .int .i64 ki, .int .i64 pe, .slice a m c1] rfl
  go_enter Tryz.func98, Tryz.ntmps98
  go_wp2_with fail
  refine (sz_no ee ki pe a m c1 _ hm hz).mono ?_
  rintro e w1 ⟨rfl, hn1⟩
  have c1x := (b1.new hn1).cells
  go_wp2
  go_ret
  exact ⟨rfl, hw.trans hn1⟩

set_option maxHeartbeats 800000 in
theorem foB (tgt me : Int) (a : Option Addr) (c1 : Nat) (w : World) (hme : 0 ≤ me) :
    Calls Tryz.prog 98 #[.agg #[.int .i64 1, .int .i64 tgt, .int .i64 me, .int .i64 0, .int .i64 0, .bool false, .int .i64 0, .int .i64 0, .int .i64 0, .slice a 0 c1]] w fun e w' => e = .returned (.bool true) ∧ New w w' := by
  have hw := (New.refl w).alloc (.cells #[.int .i64 1, .int .i64 tgt, .int .i64 me, .int .i64 0, .int .i64 0, .bool false, .int .i64 0, .int .i64 0, .int .i64 0, .slice a 0 c1] 115)
  have b1 := Blk.mk w w.heap.size 115 #[.int .i64 1, .int .i64 tgt, .int .i64 me, .int .i64 0, .int .i64 0, .bool false, .int .i64 0, .int .i64 0, .int .i64 0, .slice a 0 c1] rfl
  go_enter Tryz.func98, Tryz.ntmps98
  go_wp2_with fail
  refine (sz_yes a c1 _).mono ?_
  rintro e w1 ⟨rfl, hn1⟩
  have c1x := (b1.new hn1).cells
  go_wp2
  go_ret
  exact ⟨rfl, hw.trans hn1⟩

set_option maxHeartbeats 800000 in
theorem foC (tgt me at1 pr : Int) (ee ki pe : Int) (a : Option Addr) (m c1 : Nat) (w : World) (hm : m ≤ 1048576) (hat1 : ¬ at1 = 0) (hpr : ¬ pr = 0) (hz : ¬ Zr ee ki pe m) :
    Calls Tryz.prog 98 #[.agg #[.int .i64 1, .int .i64 tgt, .int .i64 me, .int .i64 at1, .int .i64 pr, .bool false, .int .i64 ee, .int .i64 ki, .int .i64 pe, .slice a m c1]] w fun e w' => e = .returned (.bool false) ∧ New w w' := by
  have hw := (New.refl w).alloc (.cells #[.int .i64 1, .int .i64 tgt, .int .i64 me, .int .i64 at1, .int .i64 pr, .bool false, .int .i64 ee, .int .i64 ki, .int .i64 pe, .slice a m c1] 115)
  have b1 := Blk.mk w w.heap.size 115 #[.int .i64 1, .int .i64 tgt, .int .i64 me, .int .i64 at1, .int .i64 pr, .bool false, .int .i64 ee, .int .i64 ki, .int .i64 pe, .slice a m c1] rfl
  have gat1 : (at1 == 0) = false := by simp [hat1]
  have gpr : (pr == 0) = false := by simp [hpr]
  go_enter Tryz.func98, Tryz.ntmps98
  go_wp2_with fail
  refine (sz_no ee ki pe a m c1 _ hm hz).mono ?_
  rintro e w1 ⟨rfl, hn1⟩
  have c1x := (b1.new hn1).cells
  go_wp2
  go_ret
  exact ⟨rfl, hw.trans hn1⟩

set_option maxHeartbeats 800000 in
theorem foD (tgt me at1 pr : Int) (a : Option Addr) (c1 : Nat) (w : World) (hat1 : ¬ at1 = 0) (hpr : ¬ pr = 0) (hle : pr ≤ me) :
    Calls Tryz.prog 98 #[.agg #[.int .i64 1, .int .i64 tgt, .int .i64 me, .int .i64 at1, .int .i64 pr, .bool false, .int .i64 0, .int .i64 0, .int .i64 0, .slice a 0 c1]] w fun e w' => e = .returned (.bool true) ∧ New w w' := by
  have hw := (New.refl w).alloc (.cells #[.int .i64 1, .int .i64 tgt, .int .i64 me, .int .i64 at1, .int .i64 pr, .bool false, .int .i64 0, .int .i64 0, .int .i64 0, .slice a 0 c1] 115)
  have b1 := Blk.mk w w.heap.size 115 #[.int .i64 1, .int .i64 tgt, .int .i64 me, .int .i64 at1, .int .i64 pr, .bool false, .int .i64 0, .int .i64 0, .int .i64 0, .slice a 0 c1] rfl
  have gat1 : (at1 == 0) = false := by simp [hat1]
  have gpr : (pr == 0) = false := by simp [hpr]
  go_enter Tryz.func98, Tryz.ntmps98
  go_wp2_with fail
  refine (sz_yes a c1 _).mono ?_
  rintro e w1 ⟨rfl, hn1⟩
  have c1x := (b1.new hn1).cells
  go_wp2
  go_ret
  exact ⟨rfl, hw.trans hn1⟩

set_option maxHeartbeats 800000 in
theorem foE (tgt me at1 pr : Int) (a : Option Addr) (c1 : Nat) (w : World) (hat1 : ¬ at1 = 0) (hpr : ¬ pr = 0) (hle : ¬ pr ≤ me) :
    Calls Tryz.prog 98 #[.agg #[.int .i64 1, .int .i64 tgt, .int .i64 me, .int .i64 at1, .int .i64 pr, .bool false, .int .i64 0, .int .i64 0, .int .i64 0, .slice a 0 c1]] w fun e w' => e = .returned (.bool false) ∧ New w w' := by
  have hw := (New.refl w).alloc (.cells #[.int .i64 1, .int .i64 tgt, .int .i64 me, .int .i64 at1, .int .i64 pr, .bool false, .int .i64 0, .int .i64 0, .int .i64 0, .slice a 0 c1] 115)
  have b1 := Blk.mk w w.heap.size 115 #[.int .i64 1, .int .i64 tgt, .int .i64 me, .int .i64 at1, .int .i64 pr, .bool false, .int .i64 0, .int .i64 0, .int .i64 0, .slice a 0 c1] rfl
  have gat1 : (at1 == 0) = false := by simp [hat1]
  have gpr : (pr == 0) = false := by simp [hpr]
  have gle : decide (pr ≤ me) = false := decide_eq_false hle
  go_enter Tryz.func98, Tryz.ntmps98
  go_wp2_with fail
  refine (sz_yes a c1 _).mono ?_
  rintro e w1 ⟨rfl, hn1⟩
  have c1x := (b1.new hn1).cells
  go_wp2
  go_ret
  exact ⟨rfl, hw.trans hn1⟩

/-- What a mail of its kind has. -/
def Fo (kd me at1 pr : Int) (has : Bool) (ee ki pe : Int) (m : Nat) : Prop := Fp kd me at1 pr ∧ ((kd = 1 ∧ has = true) ∨ (has = false ∧ Zr ee ki pe m))
theorem form_y (kd tgt me at1 pr : Int) (has : Bool) (ee ki pe : Int) (a : Option Addr) (m c1 : Nat) (w : World) (hm : m ≤ 1048576) (hk : kd = 1 ∨ kd = 2) (hme : 0 ≤ me) (h : Fo kd me at1 pr has ee ki pe m) :
    Calls Tryz.prog 98 #[.agg #[.int .i64 kd, .int .i64 tgt, .int .i64 me, .int .i64 at1, .int .i64 pr, .bool has, .int .i64 ee, .int .i64 ki, .int .i64 pe, .slice a m c1]] w fun e w' => e = .returned (.bool true) ∧ New w w' := by
  obtain ⟨h1, h2⟩ := h
  rcases hk with rfl | rfl
  · obtain ⟨⟨p1, p2⟩, p3⟩ := h1.2 (by omega)
    rcases h2 with ⟨-, rfl⟩ | ⟨rfl, rfl, rfl, rfl, rfl⟩
    · by_cases ha : at1 = 0
      · obtain rfl := p1 ha
        subst ha
        exact fo7 tgt me ee ki pe a m c1 w hm hme
      · exact fo8 tgt me at1 pr ee ki pe a m c1 w hm ha (fun e => ha (p2 e)) p3
    · by_cases ha : at1 = 0
      · obtain rfl := p1 ha
        subst ha
        exact foB tgt me a c1 w hme
      · exact foD tgt me at1 pr a c1 w ha (fun e => ha (p2 e)) p3
  · obtain rfl := h1.1 rfl
    rcases h2 with ⟨h3, -⟩ | ⟨rfl, rfl, rfl, rfl, rfl⟩
    · omega
    · exact fo4 tgt me at1 a c1 w
theorem form_n (kd tgt me at1 pr : Int) (has : Bool) (ee ki pe : Int) (a : Option Addr) (m c1 : Nat) (w : World) (hm : m ≤ 1048576) (hk : kd = 1 ∨ kd = 2) (hme : 0 ≤ me) (h : ¬ Fo kd me at1 pr has ee ki pe m) :
    Calls Tryz.prog 98 #[.agg #[.int .i64 kd, .int .i64 tgt, .int .i64 me, .int .i64 at1, .int .i64 pr, .bool has, .int .i64 ee, .int .i64 ki, .int .i64 pe, .slice a m c1]] w fun e w' => e = .returned (.bool false) ∧ New w w' := by
  rcases hk with rfl | rfl
  · by_cases ha : at1 = 0
    · subst ha
      by_cases hp : pr = 0
      · subst hp
        have hF : Fp 1 me 0 0 := ⟨fun e => by omega, fun _ => ⟨⟨fun _ => rfl, fun _ => rfl⟩, hme⟩⟩
        cases has with
        | true => exact absurd ⟨hF, .inl ⟨rfl, rfl⟩⟩ h
        | false => exact foA tgt me ee ki pe a m c1 w hm (fun z => h ⟨hF, .inr ⟨rfl, z⟩⟩)
      · exact fo5 tgt me pr has ee ki pe a m c1 w hm hp
    · by_cases hp : pr = 0
      · subst hp
        exact fo6 tgt me at1 has ee ki pe a m c1 w hm ha
      · by_cases hle : pr ≤ me
        · have hF : Fp 1 me at1 pr := ⟨fun e => by omega, fun _ => ⟨⟨fun e => absurd e ha, fun e => absurd e hp⟩, hle⟩⟩
          cases has with
          | true => exact absurd ⟨hF, .inl ⟨rfl, rfl⟩⟩ h
          | false => exact foC tgt me at1 pr ee ki pe a m c1 w hm ha hp (fun z => h ⟨hF, .inr ⟨rfl, z⟩⟩)
        · cases has with
          | true => exact fo9 tgt me at1 pr ee ki pe a m c1 w hm ha hp hle
          | false =>
            by_cases hz : Zr ee ki pe m
            · obtain ⟨rfl, rfl, rfl, rfl⟩ := hz
              exact foE tgt me at1 pr a c1 w ha hp hle
            · exact foC tgt me at1 pr ee ki pe a m c1 w hm ha hp hz
  · cases has with
    | true => exact fo1 tgt me at1 pr ee ki pe a m c1 w hm
    | false =>
      by_cases hp : pr = 0
      · subst hp
        have hF : Fp 2 me at1 0 := ⟨fun _ => rfl, fun e => absurd rfl e⟩
        exact fo3 tgt me at1 ee ki pe a m c1 w hm (fun z => h ⟨hF, .inr ⟨rfl, z⟩⟩)
      · exact fo2 tgt me at1 pr ee ki pe a m c1 w hm hp

variable {o : Nat}

set_option maxHeartbeats 1600000 in
theorem lm1 (B : Nat) (id : Int) (up : Bool) (ro ep su ma ot co : Int) (A : Option Addr) (n c : Nat) (kd tgt me at1 pr : Int) (has : Bool) (ee ki pe : Int) (a : Option Addr) (m c1 : Nat) (w : World) (hb : NdC w B o #[.int .i64 id, .bool up, .int .i64 ro, .int .i64 ep, .slice A n c, .int .i64 su, .int .i64 ma, .int .i64 ot, .int .i64 co]) (hm : m ≤ 1048576) (hk : kd < 1 ∨ 2 < kd) :
    Calls Tryz.prog 71 #[.pointer (some ⟨B, o, none⟩), .agg #[.int .i64 kd, .int .i64 tgt, .int .i64 me, .int .i64 at1, .int .i64 pr, .bool has, .int .i64 ee, .int .i64 ki, .int .i64 pe, .slice a m c1]] w fun e w' => e = .returned (.int .i64 1) ∧ New w w' := by
  have hw := (New.refl w).alloc (.cells #[.int .i64 kd, .int .i64 tgt, .int .i64 me, .int .i64 at1, .int .i64 pr, .bool has, .int .i64 ee, .int .i64 ki, .int .i64 pe, .slice a m c1] 115)
  have b0 := hb.new hw
  have b1 := Blk.mk w w.heap.size 115 #[.int .i64 kd, .int .i64 tgt, .int .i64 me, .int .i64 at1, .int .i64 pr, .bool has, .int .i64 ee, .int .i64 ki, .int .i64 pe, .slice a m c1] rfl
  go_enter Tryz.func71, Tryz.ntmps71
  go_upto_region 1 with fail
  generalize w.alloc (.cells #[.int .i64 kd, .int .i64 tgt, .int .i64 me, .int .i64 at1, .int .i64 pr, .bool has, .int .i64 ee, .int .i64 ki, .int .i64 pe, .slice a m c1] 115) = w0 at *
  have C0 := ndc_regrown b0
  have C1 := blk_regrown b1
  refine wp_region_quiet_below (by kernel_rfl) (by kernel_rfl) ?_
  repeat (go_big_quiet_step ((go_at_call 70; exact calls_regrown_same (in_no kd 1 2 _ hk))))
  refine wpQuiet_nil ?_
  rintro w2 hn2
  replace hn2 := new_of_regrown hn2
  have hw2 := hw.trans hn2
  have b2 := b1.new hn2
  have c2 := b2.cells
  clear C0 C1
  go_wp2
  go_ret
  exact ⟨rfl, hw2⟩

set_option maxHeartbeats 1600000 in
theorem lm2 (B : Nat) (id : Int) (up : Bool) (ro ep su ma ot co : Int) (A : Option Addr) (n c : Nat) (kd tgt me at1 pr : Int) (has : Bool) (ee ki pe : Int) (a : Option Addr) (m c1 : Nat) (w : World) (hb : NdC w B o #[.int .i64 id, .bool up, .int .i64 ro, .int .i64 ep, .slice A n c, .int .i64 su, .int .i64 ma, .int .i64 ot, .int .i64 co]) (hm : m ≤ 1048576) (hk : 1 ≤ kd ∧ kd ≤ 2) (ht : ¬ tgt = id) :
    Calls Tryz.prog 71 #[.pointer (some ⟨B, o, none⟩), .agg #[.int .i64 kd, .int .i64 tgt, .int .i64 me, .int .i64 at1, .int .i64 pr, .bool has, .int .i64 ee, .int .i64 ki, .int .i64 pe, .slice a m c1]] w fun e w' => e = .returned (.int .i64 1) ∧ New w w' := by
  have hw := (New.refl w).alloc (.cells #[.int .i64 kd, .int .i64 tgt, .int .i64 me, .int .i64 at1, .int .i64 pr, .bool has, .int .i64 ee, .int .i64 ki, .int .i64 pe, .slice a m c1] 115)
  have b0 := hb.new hw
  have b1 := Blk.mk w w.heap.size 115 #[.int .i64 kd, .int .i64 tgt, .int .i64 me, .int .i64 at1, .int .i64 pr, .bool has, .int .i64 ee, .int .i64 ki, .int .i64 pe, .slice a m c1] rfl
  have kt : (tgt != id) = true := by simp [ht]
  go_enter Tryz.func71, Tryz.ntmps71
  go_upto_region 1 with fail
  generalize w.alloc (.cells #[.int .i64 kd, .int .i64 tgt, .int .i64 me, .int .i64 at1, .int .i64 pr, .bool has, .int .i64 ee, .int .i64 ki, .int .i64 pe, .slice a m c1] 115) = w0 at *
  have C0 := ndc_regrown b0
  have C1 := blk_regrown b1
  refine wp_region_quiet_below (by kernel_rfl) (by kernel_rfl) ?_
  repeat (go_big_quiet_step ((go_at_call 70; exact calls_regrown_same (in_yes kd 1 2 _ hk))))
  refine wpQuiet_nil ?_
  rintro w2 hn2
  replace hn2 := new_of_regrown hn2
  have hw2 := hw.trans hn2
  have b2 := b1.new hn2
  have c2 := b2.cells
  clear C0 C1
  go_wp2
  go_ret
  exact ⟨rfl, hw2⟩

set_option maxHeartbeats 1600000 in
theorem lm3 (B : Nat) (id : Int) (up : Bool) (ro ep su ma ot co : Int) (A : Option Addr) (n c : Nat) (kd me at1 pr : Int) (has : Bool) (ee ki pe : Int) (a : Option Addr) (m c1 : Nat) (w : World) (hb : NdC w B o #[.int .i64 id, .bool up, .int .i64 ro, .int .i64 ep, .slice A n c, .int .i64 su, .int .i64 ma, .int .i64 ot, .int .i64 co]) (hm : m ≤ 1048576) (hk : 1 ≤ kd ∧ kd ≤ 2) (hme : me < 1 ∨ 1000 < me) :
    Calls Tryz.prog 71 #[.pointer (some ⟨B, o, none⟩), .agg #[.int .i64 kd, .int .i64 id, .int .i64 me, .int .i64 at1, .int .i64 pr, .bool has, .int .i64 ee, .int .i64 ki, .int .i64 pe, .slice a m c1]] w fun e w' => e = .returned (.int .i64 3) ∧ New w w' := by
  have hw := (New.refl w).alloc (.cells #[.int .i64 kd, .int .i64 id, .int .i64 me, .int .i64 at1, .int .i64 pr, .bool has, .int .i64 ee, .int .i64 ki, .int .i64 pe, .slice a m c1] 115)
  have b0 := hb.new hw
  have b1 := Blk.mk w w.heap.size 115 #[.int .i64 kd, .int .i64 id, .int .i64 me, .int .i64 at1, .int .i64 pr, .bool has, .int .i64 ee, .int .i64 ki, .int .i64 pe, .slice a m c1] rfl
  have kt : (id != id) = false := by simp
  go_enter Tryz.func71, Tryz.ntmps71
  go_upto_region 1 with fail
  generalize w.alloc (.cells #[.int .i64 kd, .int .i64 id, .int .i64 me, .int .i64 at1, .int .i64 pr, .bool has, .int .i64 ee, .int .i64 ki, .int .i64 pe, .slice a m c1] 115) = w0 at *
  have C0 := ndc_regrown b0
  have C1 := blk_regrown b1
  refine wp_region_quiet_below (by kernel_rfl) (by kernel_rfl) ?_
  repeat (go_big_quiet_step ((go_at_call 70; exact calls_regrown_same (in_yes kd 1 2 _ hk))))
  refine wpQuiet_nil ?_
  rintro w2 hn2
  replace hn2 := new_of_regrown hn2
  have hw2 := hw.trans hn2
  have b2 := b1.new hn2
  have c2 := b2.cells
  clear C0 C1
  go_wp2_with fail
  refine (sepoch_no me _ hme).mono ?_
  rintro e wz ⟨rfl, hwz⟩
  obtain rfl := hwz.symm
  go_wp2
  go_ret
  exact ⟨rfl, hw2⟩

set_option maxHeartbeats 1600000 in
theorem lm4 (B : Nat) (id : Int) (up : Bool) (ro ep su ma ot co : Int) (A : Option Addr) (n c : Nat) (kd me at1 pr : Int) (has : Bool) (ee ki pe : Int) (a : Option Addr) (m c1 : Nat) (w : World) (hb : NdC w B o #[.int .i64 id, .bool up, .int .i64 ro, .int .i64 ep, .slice A n c, .int .i64 su, .int .i64 ma, .int .i64 ot, .int .i64 co]) (hm : m ≤ 1048576) (hk : 1 ≤ kd ∧ kd ≤ 2) (hme : 1 ≤ me ∧ me ≤ 1000) (hat : at1 < 0 ∨ 100 < at1) :
    Calls Tryz.prog 71 #[.pointer (some ⟨B, o, none⟩), .agg #[.int .i64 kd, .int .i64 id, .int .i64 me, .int .i64 at1, .int .i64 pr, .bool has, .int .i64 ee, .int .i64 ki, .int .i64 pe, .slice a m c1]] w fun e w' => e = .returned (.int .i64 3) ∧ New w w' := by
  have hw := (New.refl w).alloc (.cells #[.int .i64 kd, .int .i64 id, .int .i64 me, .int .i64 at1, .int .i64 pr, .bool has, .int .i64 ee, .int .i64 ki, .int .i64 pe, .slice a m c1] 115)
  have b0 := hb.new hw
  have b1 := Blk.mk w w.heap.size 115 #[.int .i64 kd, .int .i64 id, .int .i64 me, .int .i64 at1, .int .i64 pr, .bool has, .int .i64 ee, .int .i64 ki, .int .i64 pe, .slice a m c1] rfl
  have kt : (id != id) = false := by simp
  go_enter Tryz.func71, Tryz.ntmps71
  go_upto_region 1 with fail
  generalize w.alloc (.cells #[.int .i64 kd, .int .i64 id, .int .i64 me, .int .i64 at1, .int .i64 pr, .bool has, .int .i64 ee, .int .i64 ki, .int .i64 pe, .slice a m c1] 115) = w0 at *
  have C0 := ndc_regrown b0
  have C1 := blk_regrown b1
  refine wp_region_quiet_below (by kernel_rfl) (by kernel_rfl) ?_
  repeat (go_big_quiet_step ((go_at_call 70; exact calls_regrown_same (in_yes kd 1 2 _ hk))))
  refine wpQuiet_nil ?_
  rintro w2 hn2
  replace hn2 := new_of_regrown hn2
  have hw2 := hw.trans hn2
  have b2 := b1.new hn2
  have c2 := b2.cells
  clear C0 C1
  go_wp2_with fail
  refine (sepoch_yes me _ hme).mono ?_
  rintro e wz ⟨rfl, hwz⟩
  obtain rfl := hwz.symm
  go_wp2_with fail
  refine (in_no at1 0 100 _ hat).mono ?_
  rintro e wz ⟨rfl, hwz⟩
  obtain rfl := hwz.symm
  go_wp2
  go_ret
  exact ⟨rfl, hw2⟩

set_option maxHeartbeats 1600000 in
theorem lm5 (B : Nat) (id : Int) (up : Bool) (ro ep su ma ot co : Int) (A : Option Addr) (n c : Nat) (kd me at1 pr : Int) (has : Bool) (ee ki pe : Int) (a : Option Addr) (m c1 : Nat) (w : World) (hb : NdC w B o #[.int .i64 id, .bool up, .int .i64 ro, .int .i64 ep, .slice A n c, .int .i64 su, .int .i64 ma, .int .i64 ot, .int .i64 co]) (hm : m ≤ 1048576) (hk : 1 ≤ kd ∧ kd ≤ 2) (hme : 1 ≤ me ∧ me ≤ 1000) (hat : 0 ≤ at1 ∧ at1 ≤ 100) (hpr : pr < 0 ∨ 1000 < pr) :
    Calls Tryz.prog 71 #[.pointer (some ⟨B, o, none⟩), .agg #[.int .i64 kd, .int .i64 id, .int .i64 me, .int .i64 at1, .int .i64 pr, .bool has, .int .i64 ee, .int .i64 ki, .int .i64 pe, .slice a m c1]] w fun e w' => e = .returned (.int .i64 3) ∧ New w w' := by
  have hw := (New.refl w).alloc (.cells #[.int .i64 kd, .int .i64 id, .int .i64 me, .int .i64 at1, .int .i64 pr, .bool has, .int .i64 ee, .int .i64 ki, .int .i64 pe, .slice a m c1] 115)
  have b0 := hb.new hw
  have b1 := Blk.mk w w.heap.size 115 #[.int .i64 kd, .int .i64 id, .int .i64 me, .int .i64 at1, .int .i64 pr, .bool has, .int .i64 ee, .int .i64 ki, .int .i64 pe, .slice a m c1] rfl
  have kt : (id != id) = false := by simp
  go_enter Tryz.func71, Tryz.ntmps71
  go_upto_region 1 with fail
  generalize w.alloc (.cells #[.int .i64 kd, .int .i64 id, .int .i64 me, .int .i64 at1, .int .i64 pr, .bool has, .int .i64 ee, .int .i64 ki, .int .i64 pe, .slice a m c1] 115) = w0 at *
  have C0 := ndc_regrown b0
  have C1 := blk_regrown b1
  refine wp_region_quiet_below (by kernel_rfl) (by kernel_rfl) ?_
  repeat (go_big_quiet_step ((go_at_call 70; exact calls_regrown_same (in_yes kd 1 2 _ hk))))
  refine wpQuiet_nil ?_
  rintro w2 hn2
  replace hn2 := new_of_regrown hn2
  have hw2 := hw.trans hn2
  have b2 := b1.new hn2
  have c2 := b2.cells
  clear C0 C1
  go_wp2_with fail
  refine (sepoch_yes me _ hme).mono ?_
  rintro e wz ⟨rfl, hwz⟩
  obtain rfl := hwz.symm
  go_wp2_with fail
  refine (in_yes at1 0 100 _ hat).mono ?_
  rintro e wz ⟨rfl, hwz⟩
  obtain rfl := hwz.symm
  go_wp2_with fail
  refine (in_no pr 0 1000 _ hpr).mono ?_
  rintro e wz ⟨rfl, hwz⟩
  obtain rfl := hwz.symm
  go_wp2
  go_ret
  exact ⟨rfl, hw2⟩

set_option maxHeartbeats 1600000 in
theorem lm6 (B : Nat) (id : Int) (up : Bool) (ro ep su ma ot co : Int) (A : Option Addr) (n c : Nat) (kd me at1 pr : Int) (has : Bool) (ee ki pe : Int) (a : Option Addr) (m c1 : Nat) (w : World) (hb : NdC w B o #[.int .i64 id, .bool up, .int .i64 ro, .int .i64 ep, .slice A n c, .int .i64 su, .int .i64 ma, .int .i64 ot, .int .i64 co]) (hm : m ≤ 1048576) (hk : 1 ≤ kd ∧ kd ≤ 2) (hme : 1 ≤ me ∧ me ≤ 1000) (hat : 0 ≤ at1 ∧ at1 ≤ 100) (hpr : 0 ≤ pr ∧ pr ≤ 1000) (hkk : kd = 1 ∨ kd = 2) (hf : ¬ Fo kd me at1 pr has ee ki pe m) :
    Calls Tryz.prog 71 #[.pointer (some ⟨B, o, none⟩), .agg #[.int .i64 kd, .int .i64 id, .int .i64 me, .int .i64 at1, .int .i64 pr, .bool has, .int .i64 ee, .int .i64 ki, .int .i64 pe, .slice a m c1]] w fun e w' => e = .returned (.int .i64 1) ∧ New w w' := by
  have hw := (New.refl w).alloc (.cells #[.int .i64 kd, .int .i64 id, .int .i64 me, .int .i64 at1, .int .i64 pr, .bool has, .int .i64 ee, .int .i64 ki, .int .i64 pe, .slice a m c1] 115)
  have b0 := hb.new hw
  have b1 := Blk.mk w w.heap.size 115 #[.int .i64 kd, .int .i64 id, .int .i64 me, .int .i64 at1, .int .i64 pr, .bool has, .int .i64 ee, .int .i64 ki, .int .i64 pe, .slice a m c1] rfl
  have kt : (id != id) = false := by simp
  go_enter Tryz.func71, Tryz.ntmps71
  go_upto_region 1 with fail
  generalize w.alloc (.cells #[.int .i64 kd, .int .i64 id, .int .i64 me, .int .i64 at1, .int .i64 pr, .bool has, .int .i64 ee, .int .i64 ki, .int .i64 pe, .slice a m c1] 115) = w0 at *
  have C0 := ndc_regrown b0
  have C1 := blk_regrown b1
  refine wp_region_quiet_below (by kernel_rfl) (by kernel_rfl) ?_
  repeat (go_big_quiet_step ((go_at_call 70; exact calls_regrown_same (in_yes kd 1 2 _ hk))))
  refine wpQuiet_nil ?_
  rintro w2 hn2
  replace hn2 := new_of_regrown hn2
  have hw2 := hw.trans hn2
  have b2 := b1.new hn2
  have c2 := b2.cells
  clear C0 C1
  go_wp2_with fail
  refine (sepoch_yes me _ hme).mono ?_
  rintro e wz ⟨rfl, hwz⟩
  obtain rfl := hwz.symm
  go_wp2_with fail
  refine (in_yes at1 0 100 _ hat).mono ?_
  rintro e wz ⟨rfl, hwz⟩
  obtain rfl := hwz.symm
  go_wp2_with fail
  refine (in_yes pr 0 1000 _ hpr).mono ?_
  rintro e wz ⟨rfl, hwz⟩
  obtain rfl := hwz.symm
  go_wp2_with fail
  refine (form_n kd id me at1 pr has ee ki pe a m c1 _ hm hkk (by omega) hf).mono ?_
  rintro e w3 ⟨rfl, hn3⟩
  go_wp2
  go_ret
  exact ⟨rfl, hw2.trans hn3⟩

set_option maxHeartbeats 1600000 in
theorem lm7 (B : Nat) (id : Int) (up : Bool) (ro ep su ma ot co : Int) (A : Option Addr) (n c : Nat) (kd me at1 pr : Int) (ee ki pe : Int) (a : Option Addr) (m c1 : Nat) (w : World) (hb : NdC w B o #[.int .i64 id, .bool up, .int .i64 ro, .int .i64 ep, .slice A n c, .int .i64 su, .int .i64 ma, .int .i64 ot, .int .i64 co]) (hm : m ≤ 1048576) (hk : 1 ≤ kd ∧ kd ≤ 2) (hme : 1 ≤ me ∧ me ≤ 1000) (hat : 0 ≤ at1 ∧ at1 ≤ 100) (hpr : 0 ≤ pr ∧ pr ≤ 1000) (hkk : kd = 1 ∨ kd = 2) (hf : Fo kd me at1 pr false ee ki pe m) :
    Calls Tryz.prog 71 #[.pointer (some ⟨B, o, none⟩), .agg #[.int .i64 kd, .int .i64 id, .int .i64 me, .int .i64 at1, .int .i64 pr, .bool false, .int .i64 ee, .int .i64 ki, .int .i64 pe, .slice a m c1]] w fun e w' => e = .returned (.int .i64 0) ∧ New w w' := by
  have hw := (New.refl w).alloc (.cells #[.int .i64 kd, .int .i64 id, .int .i64 me, .int .i64 at1, .int .i64 pr, .bool false, .int .i64 ee, .int .i64 ki, .int .i64 pe, .slice a m c1] 115)
  have b0 := hb.new hw
  have b1 := Blk.mk w w.heap.size 115 #[.int .i64 kd, .int .i64 id, .int .i64 me, .int .i64 at1, .int .i64 pr, .bool false, .int .i64 ee, .int .i64 ki, .int .i64 pe, .slice a m c1] rfl
  have kt : (id != id) = false := by simp
  go_enter Tryz.func71, Tryz.ntmps71
  go_upto_region 1 with fail
  generalize w.alloc (.cells #[.int .i64 kd, .int .i64 id, .int .i64 me, .int .i64 at1, .int .i64 pr, .bool false, .int .i64 ee, .int .i64 ki, .int .i64 pe, .slice a m c1] 115) = w0 at *
  have C0 := ndc_regrown b0
  have C1 := blk_regrown b1
  refine wp_region_quiet_below (by kernel_rfl) (by kernel_rfl) ?_
  repeat (go_big_quiet_step ((go_at_call 70; exact calls_regrown_same (in_yes kd 1 2 _ hk))))
  refine wpQuiet_nil ?_
  rintro w2 hn2
  replace hn2 := new_of_regrown hn2
  have hw2 := hw.trans hn2
  have b2 := b1.new hn2
  have c2 := b2.cells
  clear C0 C1
  go_wp2_with fail
  refine (sepoch_yes me _ hme).mono ?_
  rintro e wz ⟨rfl, hwz⟩
  obtain rfl := hwz.symm
  go_wp2_with fail
  refine (in_yes at1 0 100 _ hat).mono ?_
  rintro e wz ⟨rfl, hwz⟩
  obtain rfl := hwz.symm
  go_wp2_with fail
  refine (in_yes pr 0 1000 _ hpr).mono ?_
  rintro e wz ⟨rfl, hwz⟩
  obtain rfl := hwz.symm
  go_wp2_with fail
  refine (form_y kd id me at1 pr false ee ki pe a m c1 _ hm hkk (by omega) hf).mono ?_
  rintro e w3 ⟨rfl, hn3⟩
  have b3 := b2.new hn3
  have c3 := b3.cells
  have hw3 := hw2.trans hn3
  go_wp2
  go_ret
  exact ⟨rfl, hw3⟩

set_option maxHeartbeats 1600000 in
theorem lm8 (B : Nat) (id : Int) (up : Bool) (ro ep su ma ot co : Int) (A : Option Addr) (n c : Nat) (kd me at1 pr : Int) (ee ki pe : Int) (a : Option Addr) (m c1 : Nat) (w : World) (hb : NdC w B o #[.int .i64 id, .bool up, .int .i64 ro, .int .i64 ep, .slice A n c, .int .i64 su, .int .i64 ma, .int .i64 ot, .int .i64 co]) (hm : m ≤ 1048576) (hk : 1 ≤ kd ∧ kd ≤ 2) (hme : 1 ≤ me ∧ me ≤ 1000) (hat : 0 ≤ at1 ∧ at1 ≤ 100) (hpr : 0 ≤ pr ∧ pr ≤ 1000) (hkk : kd = 1 ∨ kd = 2) (hf : Fo kd me at1 pr true ee ki pe m) (v : Int) (he : enF ee ki pe m = v) (hv : ¬ v = 0) :
    Calls Tryz.prog 71 #[.pointer (some ⟨B, o, none⟩), .agg #[.int .i64 kd, .int .i64 id, .int .i64 me, .int .i64 at1, .int .i64 pr, .bool true, .int .i64 ee, .int .i64 ki, .int .i64 pe, .slice a m c1]] w fun e w' => e = .returned (.int .i64 v) ∧ New w w' := by
  have hw := (New.refl w).alloc (.cells #[.int .i64 kd, .int .i64 id, .int .i64 me, .int .i64 at1, .int .i64 pr, .bool true, .int .i64 ee, .int .i64 ki, .int .i64 pe, .slice a m c1] 115)
  have b0 := hb.new hw
  have b1 := Blk.mk w w.heap.size 115 #[.int .i64 kd, .int .i64 id, .int .i64 me, .int .i64 at1, .int .i64 pr, .bool true, .int .i64 ee, .int .i64 ki, .int .i64 pe, .slice a m c1] rfl
  have kt : (id != id) = false := by simp
  go_enter Tryz.func71, Tryz.ntmps71
  go_upto_region 1 with fail
  generalize w.alloc (.cells #[.int .i64 kd, .int .i64 id, .int .i64 me, .int .i64 at1, .int .i64 pr, .bool true, .int .i64 ee, .int .i64 ki, .int .i64 pe, .slice a m c1] 115) = w0 at *
  have C0 := ndc_regrown b0
  have C1 := blk_regrown b1
  refine wp_region_quiet_below (by kernel_rfl) (by kernel_rfl) ?_
  repeat (go_big_quiet_step ((go_at_call 70; exact calls_regrown_same (in_yes kd 1 2 _ hk))))
  refine wpQuiet_nil ?_
  rintro w2 hn2
  replace hn2 := new_of_regrown hn2
  have hw2 := hw.trans hn2
  have b2 := b1.new hn2
  have c2 := b2.cells
  clear C0 C1
  go_wp2_with fail
  refine (sepoch_yes me _ hme).mono ?_
  rintro e wz ⟨rfl, hwz⟩
  obtain rfl := hwz.symm
  go_wp2_with fail
  refine (in_yes at1 0 100 _ hat).mono ?_
  rintro e wz ⟨rfl, hwz⟩
  obtain rfl := hwz.symm
  go_wp2_with fail
  refine (in_yes pr 0 1000 _ hpr).mono ?_
  rintro e wz ⟨rfl, hwz⟩
  obtain rfl := hwz.symm
  go_wp2_with fail
  refine (form_y kd id me at1 pr true ee ki pe a m c1 _ hm hkk (by omega) hf).mono ?_
  rintro e w3 ⟨rfl, hn3⟩
  have b3 := b2.new hn3
  have c3 := b3.cells
  have hw3 := hw2.trans hn3
  go_wp2_with fail
  refine (specENv v ee ki pe a m c1 _ hm he).mono ?_
  rintro e w4 ⟨rfl, hn4⟩
  have c4 := (b3.new hn4).cells
  go_wp2
  go_ret
  exact ⟨rfl, hw3.trans hn4⟩

set_option maxHeartbeats 1600000 in
theorem lm9 (B : Nat) (id : Int) (up : Bool) (ro ep su ma ot co : Int) (A : Option Addr) (n c : Nat) (kd me at1 pr : Int) (ee ki pe : Int) (a : Option Addr) (m c1 : Nat) (w : World) (hb : NdC w B o #[.int .i64 id, .bool up, .int .i64 ro, .int .i64 ep, .slice A n c, .int .i64 su, .int .i64 ma, .int .i64 ot, .int .i64 co]) (hm : m ≤ 1048576) (hk : 1 ≤ kd ∧ kd ≤ 2) (hme : 1 ≤ me ∧ me ≤ 1000) (hat : 0 ≤ at1 ∧ at1 ≤ 100) (hpr : 0 ≤ pr ∧ pr ≤ 1000) (hkk : kd = 1 ∨ kd = 2) (hf : Fo kd me at1 pr true ee ki pe m) (he : enF ee ki pe m = 0) (h1 : me < ee) :
    Calls Tryz.prog 71 #[.pointer (some ⟨B, o, none⟩), .agg #[.int .i64 kd, .int .i64 id, .int .i64 me, .int .i64 at1, .int .i64 pr, .bool true, .int .i64 ee, .int .i64 ki, .int .i64 pe, .slice a m c1]] w fun e w' => e = .returned (.int .i64 1) ∧ New w w' := by
  have hw := (New.refl w).alloc (.cells #[.int .i64 kd, .int .i64 id, .int .i64 me, .int .i64 at1, .int .i64 pr, .bool true, .int .i64 ee, .int .i64 ki, .int .i64 pe, .slice a m c1] 115)
  have b0 := hb.new hw
  have b1 := Blk.mk w w.heap.size 115 #[.int .i64 kd, .int .i64 id, .int .i64 me, .int .i64 at1, .int .i64 pr, .bool true, .int .i64 ee, .int .i64 ki, .int .i64 pe, .slice a m c1] rfl
  have kt : (id != id) = false := by simp
  go_enter Tryz.func71, Tryz.ntmps71
  go_upto_region 1 with fail
  generalize w.alloc (.cells #[.int .i64 kd, .int .i64 id, .int .i64 me, .int .i64 at1, .int .i64 pr, .bool true, .int .i64 ee, .int .i64 ki, .int .i64 pe, .slice a m c1] 115) = w0 at *
  have C0 := ndc_regrown b0
  have C1 := blk_regrown b1
  refine wp_region_quiet_below (by kernel_rfl) (by kernel_rfl) ?_
  repeat (go_big_quiet_step ((go_at_call 70; exact calls_regrown_same (in_yes kd 1 2 _ hk))))
  refine wpQuiet_nil ?_
  rintro w2 hn2
  replace hn2 := new_of_regrown hn2
  have hw2 := hw.trans hn2
  have b2 := b1.new hn2
  have c2 := b2.cells
  clear C0 C1
  go_wp2_with fail
  refine (sepoch_yes me _ hme).mono ?_
  rintro e wz ⟨rfl, hwz⟩
  obtain rfl := hwz.symm
  go_wp2_with fail
  refine (in_yes at1 0 100 _ hat).mono ?_
  rintro e wz ⟨rfl, hwz⟩
  obtain rfl := hwz.symm
  go_wp2_with fail
  refine (in_yes pr 0 1000 _ hpr).mono ?_
  rintro e wz ⟨rfl, hwz⟩
  obtain rfl := hwz.symm
  go_wp2_with fail
  refine (form_y kd id me at1 pr true ee ki pe a m c1 _ hm hkk (by omega) hf).mono ?_
  rintro e w3 ⟨rfl, hn3⟩
  have b3 := b2.new hn3
  have c3 := b3.cells
  have hw3 := hw2.trans hn3
  go_wp2_with fail
  refine (specENv 0 ee ki pe a m c1 _ hm he).mono ?_
  rintro e w4 ⟨rfl, hn4⟩
  have c4 := (b3.new hn4).cells
  go_wp2
  go_ret
  exact ⟨rfl, hw3.trans hn4⟩

set_option maxHeartbeats 1600000 in
theorem lmA (B : Nat) (id : Int) (up : Bool) (ro ep su ma ot co : Int) (A : Option Addr) (n c : Nat) (kd me at1 pr : Int) (ee ki pe : Int) (a : Option Addr) (m c1 : Nat) (w : World) (hb : NdC w B o #[.int .i64 id, .bool up, .int .i64 ro, .int .i64 ep, .slice A n c, .int .i64 su, .int .i64 ma, .int .i64 ot, .int .i64 co]) (hm : m ≤ 1048576) (hk : 1 ≤ kd ∧ kd ≤ 2) (hme : 1 ≤ me ∧ me ≤ 1000) (hat : 0 ≤ at1 ∧ at1 ≤ 100) (hpr : 0 ≤ pr ∧ pr ≤ 1000) (hkk : kd = 1 ∨ kd = 2) (hf : Fo kd me at1 pr true ee ki pe m) (he : enF ee ki pe m = 0) (h1 : ¬ me < ee) (h2 : ee < pr) :
    Calls Tryz.prog 71 #[.pointer (some ⟨B, o, none⟩), .agg #[.int .i64 kd, .int .i64 id, .int .i64 me, .int .i64 at1, .int .i64 pr, .bool true, .int .i64 ee, .int .i64 ki, .int .i64 pe, .slice a m c1]] w fun e w' => e = .returned (.int .i64 1) ∧ New w w' := by
  have hw := (New.refl w).alloc (.cells #[.int .i64 kd, .int .i64 id, .int .i64 me, .int .i64 at1, .int .i64 pr, .bool true, .int .i64 ee, .int .i64 ki, .int .i64 pe, .slice a m c1] 115)
  have b0 := hb.new hw
  have b1 := Blk.mk w w.heap.size 115 #[.int .i64 kd, .int .i64 id, .int .i64 me, .int .i64 at1, .int .i64 pr, .bool true, .int .i64 ee, .int .i64 ki, .int .i64 pe, .slice a m c1] rfl
  have kt : (id != id) = false := by simp
  go_enter Tryz.func71, Tryz.ntmps71
  go_upto_region 1 with fail
  generalize w.alloc (.cells #[.int .i64 kd, .int .i64 id, .int .i64 me, .int .i64 at1, .int .i64 pr, .bool true, .int .i64 ee, .int .i64 ki, .int .i64 pe, .slice a m c1] 115) = w0 at *
  have C0 := ndc_regrown b0
  have C1 := blk_regrown b1
  refine wp_region_quiet_below (by kernel_rfl) (by kernel_rfl) ?_
  repeat (go_big_quiet_step ((go_at_call 70; exact calls_regrown_same (in_yes kd 1 2 _ hk))))
  refine wpQuiet_nil ?_
  rintro w2 hn2
  replace hn2 := new_of_regrown hn2
  have hw2 := hw.trans hn2
  have b2 := b1.new hn2
  have c2 := b2.cells
  clear C0 C1
  go_wp2_with fail
  refine (sepoch_yes me _ hme).mono ?_
  rintro e wz ⟨rfl, hwz⟩
  obtain rfl := hwz.symm
  go_wp2_with fail
  refine (in_yes at1 0 100 _ hat).mono ?_
  rintro e wz ⟨rfl, hwz⟩
  obtain rfl := hwz.symm
  go_wp2_with fail
  refine (in_yes pr 0 1000 _ hpr).mono ?_
  rintro e wz ⟨rfl, hwz⟩
  obtain rfl := hwz.symm
  go_wp2_with fail
  refine (form_y kd id me at1 pr true ee ki pe a m c1 _ hm hkk (by omega) hf).mono ?_
  rintro e w3 ⟨rfl, hn3⟩
  have b3 := b2.new hn3
  have c3 := b3.cells
  have hw3 := hw2.trans hn3
  go_wp2_with fail
  refine (specENv 0 ee ki pe a m c1 _ hm he).mono ?_
  rintro e w4 ⟨rfl, hn4⟩
  have c4 := (b3.new hn4).cells
  go_wp2
  go_ret
  exact ⟨rfl, hw3.trans hn4⟩

set_option maxHeartbeats 1600000 in
theorem lmB (B : Nat) (id : Int) (up : Bool) (ro ep su ma ot co : Int) (A : Option Addr) (n c : Nat) (kd me at1 pr : Int) (ee ki pe : Int) (a : Option Addr) (m c1 : Nat) (w : World) (hb : NdC w B o #[.int .i64 id, .bool up, .int .i64 ro, .int .i64 ep, .slice A n c, .int .i64 su, .int .i64 ma, .int .i64 ot, .int .i64 co]) (hm : m ≤ 1048576) (hk : 1 ≤ kd ∧ kd ≤ 2) (hme : 1 ≤ me ∧ me ≤ 1000) (hat : 0 ≤ at1 ∧ at1 ≤ 100) (hpr : 0 ≤ pr ∧ pr ≤ 1000) (hkk : kd = 1 ∨ kd = 2) (hf : Fo kd me at1 pr true ee ki pe m) (he : enF ee ki pe m = 0) (h1 : ¬ me < ee) (h2 : ¬ ee < pr) :
    Calls Tryz.prog 71 #[.pointer (some ⟨B, o, none⟩), .agg #[.int .i64 kd, .int .i64 id, .int .i64 me, .int .i64 at1, .int .i64 pr, .bool true, .int .i64 ee, .int .i64 ki, .int .i64 pe, .slice a m c1]] w fun e w' => e = .returned (.int .i64 0) ∧ New w w' := by
  have hw := (New.refl w).alloc (.cells #[.int .i64 kd, .int .i64 id, .int .i64 me, .int .i64 at1, .int .i64 pr, .bool true, .int .i64 ee, .int .i64 ki, .int .i64 pe, .slice a m c1] 115)
  have b0 := hb.new hw
  have b1 := Blk.mk w w.heap.size 115 #[.int .i64 kd, .int .i64 id, .int .i64 me, .int .i64 at1, .int .i64 pr, .bool true, .int .i64 ee, .int .i64 ki, .int .i64 pe, .slice a m c1] rfl
  have kt : (id != id) = false := by simp
  go_enter Tryz.func71, Tryz.ntmps71
  go_upto_region 1 with fail
  generalize w.alloc (.cells #[.int .i64 kd, .int .i64 id, .int .i64 me, .int .i64 at1, .int .i64 pr, .bool true, .int .i64 ee, .int .i64 ki, .int .i64 pe, .slice a m c1] 115) = w0 at *
  have C0 := ndc_regrown b0
  have C1 := blk_regrown b1
  refine wp_region_quiet_below (by kernel_rfl) (by kernel_rfl) ?_
  repeat (go_big_quiet_step ((go_at_call 70; exact calls_regrown_same (in_yes kd 1 2 _ hk))))
  refine wpQuiet_nil ?_
  rintro w2 hn2
  replace hn2 := new_of_regrown hn2
  have hw2 := hw.trans hn2
  have b2 := b1.new hn2
  have c2 := b2.cells
  clear C0 C1
  go_wp2_with fail
  refine (sepoch_yes me _ hme).mono ?_
  rintro e wz ⟨rfl, hwz⟩
  obtain rfl := hwz.symm
  go_wp2_with fail
  refine (in_yes at1 0 100 _ hat).mono ?_
  rintro e wz ⟨rfl, hwz⟩
  obtain rfl := hwz.symm
  go_wp2_with fail
  refine (in_yes pr 0 1000 _ hpr).mono ?_
  rintro e wz ⟨rfl, hwz⟩
  obtain rfl := hwz.symm
  go_wp2_with fail
  refine (form_y kd id me at1 pr true ee ki pe a m c1 _ hm hkk (by omega) hf).mono ?_
  rintro e w3 ⟨rfl, hn3⟩
  have b3 := b2.new hn3
  have c3 := b3.cells
  have hw3 := hw2.trans hn3
  go_wp2_with fail
  refine (specENv 0 ee ki pe a m c1 _ hm he).mono ?_
  rintro e w4 ⟨rfl, hn4⟩
  have c4 := (b3.new hn4).cells
  go_wp2
  go_ret
  exact ⟨rfl, hw3.trans hn4⟩

theorem l12M_x (B : Nat) (id : Int) (up : Bool) (ro ep su ma ot co : Int) (A : Option Addr) (n c : Nat) (kd tgt me at1 pr : Int) (has : Bool) (ee ki pe : Int) (a : Option Addr) (m c1 : Nat) (w : World) (hb : NdC w B o #[.int .i64 id, .bool up, .int .i64 ro, .int .i64 ep, .slice A n c, .int .i64 su, .int .i64 ma, .int .i64 ot, .int .i64 co]) (hm : m ≤ 1048576) :
    Calls Tryz.prog 71 #[.pointer (some ⟨B, o, none⟩), .agg #[.int .i64 kd, .int .i64 tgt, .int .i64 me, .int .i64 at1, .int .i64 pr, .bool has, .int .i64 ee, .int .i64 ki, .int .i64 pe, .slice a m c1]] w fun e w' => e = .returned (.int .i64 (mlF id kd tgt me at1 pr has ee ki pe m)) ∧ New w w' := by
  unfold mlF
  by_cases hk : kd = 1 ∨ kd = 2
  case neg => rw [if_pos (fun k => hk k.1)]; exact lm1 B id up ro ep su ma ot co A n c kd tgt me at1 pr has ee ki pe a m c1 w hb hm (by omega)
  have hk' : 1 ≤ kd ∧ kd ≤ 2 := by omega
  by_cases ht : tgt = id
  case neg => rw [if_pos (fun k => ht k.2)]; exact lm2 B id up ro ep su ma ot co A n c kd tgt me at1 pr has ee ki pe a m c1 w hb hm hk' ht
  rw [if_neg (fun k => k ⟨hk, ht⟩)]
  subst ht
  by_cases hme : 1 ≤ me ∧ me ≤ 1000
  case neg => rw [if_pos (fun k => hme k.1)]; exact lm3 B tgt up ro ep su ma ot co A n c kd me at1 pr has ee ki pe a m c1 w hb hm hk' (by omega)
  by_cases hat : 0 ≤ at1 ∧ at1 ≤ 100
  case neg => rw [if_pos (fun k => hat k.2.1)]; exact lm4 B tgt up ro ep su ma ot co A n c kd me at1 pr has ee ki pe a m c1 w hb hm hk' hme (by omega)
  by_cases hpr : 0 ≤ pr ∧ pr ≤ 1000
  case neg => rw [if_pos (fun k => hpr k.2.2)]; exact lm5 B tgt up ro ep su ma ot co A n c kd me at1 pr has ee ki pe a m c1 w hb hm hk' hme hat (by omega)
  rw [if_neg (fun k => k ⟨hme, hat, hpr⟩)]
  by_cases hf : (kd = 2 → pr = 0) ∧ (kd ≠ 2 → ((at1 = 0 → pr = 0) ∧ (pr = 0 → at1 = 0)) ∧ pr ≤ me)
  case neg => rw [if_pos hf]; exact lm6 B tgt up ro ep su ma ot co A n c kd me at1 pr has ee ki pe a m c1 w hb hm hk' hme hat hpr hk (fun k => hf k.1)
  rw [if_neg (fun k => k hf)]
  cases has with
  | true =>
    rcases hk with rfl | rfl
    · rw [if_pos ⟨rfl, rfl⟩]
      have hF : Fo 1 me at1 pr true ee ki pe m := ⟨hf, .inl ⟨rfl, rfl⟩⟩
      unfold efF
      by_cases he : enF ee ki pe m = 0
      · rw [if_neg (fun k => k he)]
        by_cases h1 : me < ee
        · rw [if_pos (.inl h1)]; exact lm9 B tgt up ro ep su ma ot co A n c 1 me at1 pr ee ki pe a m c1 w hb hm hk' hme hat hpr (.inl rfl) hF he h1
        · by_cases h2 : ee < pr
          · rw [if_pos (.inr h2)]; exact lmA B tgt up ro ep su ma ot co A n c 1 me at1 pr ee ki pe a m c1 w hb hm hk' hme hat hpr (.inl rfl) hF he h1 h2
          · rw [if_neg (by omega)]; exact lmB B tgt up ro ep su ma ot co A n c 1 me at1 pr ee ki pe a m c1 w hb hm hk' hme hat hpr (.inl rfl) hF he h1 h2
      · rw [if_pos he]; exact lm8 B tgt up ro ep su ma ot co A n c 1 me at1 pr ee ki pe a m c1 w hb hm hk' hme hat hpr (.inl rfl) hF _ rfl he
    · rw [if_neg (by omega), if_pos (.inl rfl)]
      exact lm6 B tgt up ro ep su ma ot co A n c 2 me at1 pr true ee ki pe a m c1 w hb hm hk' hme hat hpr (.inr rfl) (fun k => by rcases k.2 with ⟨e, -⟩ | ⟨e, -⟩; omega; cases e)
  | false =>
    rw [if_neg (by simp)]
    by_cases hz : ee = 0 ∧ ki = 0 ∧ pe = 0 ∧ m = 0
    · rw [if_neg (fun k => by rcases k with k | k; cases k; exact k hz)]
      exact lm7 B tgt up ro ep su ma ot co A n c kd me at1 pr ee ki pe a m c1 w hb hm hk' hme hat hpr hk ⟨hf, .inr ⟨rfl, hz⟩⟩
    · rw [if_pos (.inr hz)]
      exact lm6 B tgt up ro ep su ma ot co A n c kd me at1 pr false ee ki pe a m c1 w hb hm hk' hme hat hpr hk (fun k => by rcases k.2 with ⟨-, e⟩ | ⟨-, e⟩; cases e; exact hz e)

theorem l12M_any (B : Nat) (id : Int) (up : Bool) (ro ep su ma ot co : Int) (A : Option Addr) (n c : Nat) (kd tgt me at1 pr : Int) (has : Bool) (ee ki pe : Int) (a : Option Addr) (m c1 : Nat) (w : World) (hb : Blk w B 107 #[.int .i64 id, .bool up, .int .i64 ro, .int .i64 ep, .slice A n c, .int .i64 su, .int .i64 ma, .int .i64 ot, .int .i64 co]) (hm : m ≤ 1048576) :
    Calls Tryz.prog 71 #[.pointer (some ⟨B, 0, none⟩), .agg #[.int .i64 kd, .int .i64 tgt, .int .i64 me, .int .i64 at1, .int .i64 pr, .bool has, .int .i64 ee, .int .i64 ki, .int .i64 pe, .slice a m c1]] w fun e w' => e = .returned (.int .i64 (mlF id kd tgt me at1 pr has ee ki pe m)) ∧ New w w' := l12M_x B id up ro ep su ma ot co A n c kd tgt me at1 pr has ee ki pe a m c1 w (NdC.ofBlk hb) hm

end Go.Proofs.YtlkhmnjghdbmoaaGreatDoor

namespace Go.Proofs.YtlkhmnjghdbmoaaGreatDoor
open Go.ChangeShapes Go.WideShapes Go.ChangeAt Go.RowKit Go.Deep Go.Sort
set_option linter.unusedVariables false
set_option linter.unusedSimpArgs false
set_option maxRecDepth 100000


theorem szMl_okZ (kd tgt me at1 pr : Int) (has : Bool) (ee ki pe : Int) (a : Option Addr) (m c1 : Nat) (k : Int) (w : World) (h0 : 0 ≤ k) (hk : k ≤ 1048576) (h : (m : Int) ≤ k) : Calls Tryz.prog 35 #[.agg #[.int .i64 kd, .int .i64 tgt, .int .i64 me, .int .i64 at1, .int .i64 pr, .bool has, .int .i64 ee, .int .i64 ki, .int .i64 pe, .slice a m c1], .int .i64 k] w fun e w' => e = .returned (.int .i64 (k - m)) ∧ New w w' := by
  have hw := (New.refl w).alloc (.cells #[.int .i64 kd, .int .i64 tgt, .int .i64 me, .int .i64 at1, .int .i64 pr, .bool has, .int .i64 ee, .int .i64 ki, .int .i64 pe, .slice a m c1] 96)
  go_enter Tryz.func35, Tryz.ntmps35
  go_wp2_with fail
  refine (szEk_okZ ee ki pe a m c1 k _ h0 hk h).mono ?_
  rintro e w1 ⟨rfl, hn1⟩
  go_wp2
  go_ret
  exact ⟨rfl, hw.trans hn1⟩
theorem szMl_bigZ (kd tgt me at1 pr : Int) (has : Bool) (ee ki pe : Int) (a : Option Addr) (m c1 : Nat) (k : Int) (w : World) (h0 : 0 ≤ k) (hk : k ≤ 1048576) (hm : m ≤ maxLen) (h : k < (m : Int)) : Calls Tryz.prog 35 #[.agg #[.int .i64 kd, .int .i64 tgt, .int .i64 me, .int .i64 at1, .int .i64 pr, .bool has, .int .i64 ee, .int .i64 ki, .int .i64 pe, .slice a m c1], .int .i64 k] w fun e w' => e = .returned (.int .i64 (-1)) ∧ New w w' := by
  have hw := (New.refl w).alloc (.cells #[.int .i64 kd, .int .i64 tgt, .int .i64 me, .int .i64 at1, .int .i64 pr, .bool has, .int .i64 ee, .int .i64 ki, .int .i64 pe, .slice a m c1] 96)
  go_enter Tryz.func35, Tryz.ntmps35
  go_wp2_with fail
  refine (szEk_bigZ ee ki pe a m c1 k _ h0 hk hm h).mono ?_
  rintro e w1 ⟨rfl, hn1⟩
  go_wp2
  go_ret
  exact ⟨rfl, hw.trans hn1⟩

set_option maxHeartbeats 3200000 in
theorem toMl_any (kd tgt me at1 pr : Int) (has : Bool) (ee ki pe : Int) (a : Option Addr) (m c1 : Nat) (zs : List Int) (w : World) (h : BsAt w a zs) (hn : zs.length = m) (hm : m ≤ 1048576) :
    Calls Tryz.prog 47 #[.agg #[.int .i64 kd, .int .i64 tgt, .int .i64 me, .int .i64 at1, .int .i64 pr, .bool has, .int .i64 ee, .int .i64 ki, .int .i64 pe, .slice a m c1]] w fun e w' => ∃ g, e = .returned (.agg #[.int .i64 kd, .int .i64 tgt, .int .i64 me, .int .i64 at1, .int .i64 pr, .bool has, .int .i64 ee, .int .i64 ki, .int .i64 pe, .slice (some ⟨g, 0, none⟩) m m]) ∧ w.heap.size ≤ g ∧ w'.ownsRow 0 5 1 (.slice (some ⟨g, 0, none⟩) m m) m (zs.map (Value.int .u8)) ∧ New w w' := by
  have hw0 : New w (((w.alloc (.cells #[.int .i64 kd, .int .i64 tgt, .int .i64 me, .int .i64 at1, .int .i64 pr, .bool has, .int .i64 ee, .int .i64 ki, .int .i64 pe, .slice a m c1] 96)).alloc (.cells #[.int .i64 0, .int .i64 0, .int .i64 0, .int .i64 0, .int .i64 0, .bool false, .int .i64 0, .int .i64 0, .int .i64 0, .slice none 0 0] 115)).alloc (.cells #[.int .i64 kd, .int .i64 tgt, .int .i64 me, .int .i64 at1, .int .i64 pr, .bool has, .int .i64 0, .int .i64 0, .int .i64 0, .slice none 0 0] 115)) := (((New.refl w).alloc _).alloc _).alloc _
  have b0 : Blk (((w.alloc (.cells #[.int .i64 kd, .int .i64 tgt, .int .i64 me, .int .i64 at1, .int .i64 pr, .bool has, .int .i64 ee, .int .i64 ki, .int .i64 pe, .slice a m c1] 96)).alloc (.cells #[.int .i64 0, .int .i64 0, .int .i64 0, .int .i64 0, .int .i64 0, .bool false, .int .i64 0, .int .i64 0, .int .i64 0, .slice none 0 0] 115)).alloc (.cells #[.int .i64 kd, .int .i64 tgt, .int .i64 me, .int .i64 at1, .int .i64 pr, .bool has, .int .i64 0, .int .i64 0, .int .i64 0, .slice none 0 0] 115)) w.heap.size 96 #[.int .i64 kd, .int .i64 tgt, .int .i64 me, .int .i64 at1, .int .i64 pr, .bool has, .int .i64 ee, .int .i64 ki, .int .i64 pe, .slice a m c1] := ((Blk.mk _ _ _ _ rfl).alloc _).alloc _
  have b1 : Blk (((w.alloc (.cells #[.int .i64 kd, .int .i64 tgt, .int .i64 me, .int .i64 at1, .int .i64 pr, .bool has, .int .i64 ee, .int .i64 ki, .int .i64 pe, .slice a m c1] 96)).alloc (.cells #[.int .i64 0, .int .i64 0, .int .i64 0, .int .i64 0, .int .i64 0, .bool false, .int .i64 0, .int .i64 0, .int .i64 0, .slice none 0 0] 115)).alloc (.cells #[.int .i64 kd, .int .i64 tgt, .int .i64 me, .int .i64 at1, .int .i64 pr, .bool has, .int .i64 0, .int .i64 0, .int .i64 0, .slice none 0 0] 115)) (w.heap.size + 1) 115 #[.int .i64 0, .int .i64 0, .int .i64 0, .int .i64 0, .int .i64 0, .bool false, .int .i64 0, .int .i64 0, .int .i64 0, .slice none 0 0] := (Blk.mk _ _ _ _ (by simp)).alloc _
  have b2 : Blk (((w.alloc (.cells #[.int .i64 kd, .int .i64 tgt, .int .i64 me, .int .i64 at1, .int .i64 pr, .bool has, .int .i64 ee, .int .i64 ki, .int .i64 pe, .slice a m c1] 96)).alloc (.cells #[.int .i64 0, .int .i64 0, .int .i64 0, .int .i64 0, .int .i64 0, .bool false, .int .i64 0, .int .i64 0, .int .i64 0, .slice none 0 0] 115)).alloc (.cells #[.int .i64 kd, .int .i64 tgt, .int .i64 me, .int .i64 at1, .int .i64 pr, .bool has, .int .i64 0, .int .i64 0, .int .i64 0, .slice none 0 0] 115)) (w.heap.size + 1 + 1) 115 #[.int .i64 kd, .int .i64 tgt, .int .i64 me, .int .i64 at1, .int .i64 pr, .bool has, .int .i64 0, .int .i64 0, .int .i64 0, .slice none 0 0] := Blk.mk _ _ _ _ (by simp)
  have s0 : Hid ((((w.alloc (.cells #[.int .i64 kd, .int .i64 tgt, .int .i64 me, .int .i64 at1, .int .i64 pr, .bool has, .int .i64 ee, .int .i64 ki, .int .i64 pe, .slice a m c1] 96)).alloc (.cells #[.int .i64 0, .int .i64 0, .int .i64 0, .int .i64 0, .int .i64 0, .bool false, .int .i64 0, .int .i64 0, .int .i64 0, .slice none 0 0] 115)).alloc (.cells #[.int .i64 kd, .int .i64 tgt, .int .i64 me, .int .i64 at1, .int .i64 pr, .bool has, .int .i64 0, .int .i64 0, .int .i64 0, .slice none 0 0] 115)).heap.size = w.heap.size + 1 + 1 + 1) := by unfold Hid; simp
  go_enter Tryz.func47, Tryz.ntmps47
  go_upto_region 8 with fail
  generalize (((w.alloc (.cells #[.int .i64 kd, .int .i64 tgt, .int .i64 me, .int .i64 at1, .int .i64 pr, .bool has, .int .i64 ee, .int .i64 ki, .int .i64 pe, .slice a m c1] 96)).alloc (.cells #[.int .i64 0, .int .i64 0, .int .i64 0, .int .i64 0, .int .i64 0, .bool false, .int .i64 0, .int .i64 0, .int .i64 0, .slice none 0 0] 115)).alloc (.cells #[.int .i64 kd, .int .i64 tgt, .int .i64 me, .int .i64 at1, .int .i64 pr, .bool has, .int .i64 0, .int .i64 0, .int .i64 0, .slice none 0 0] 115)) = w0 at *
  have c0 := b0.cells
  go_wp2_with fail
  refine (toEntry_any ee ki pe a m c1 zs _ (h.new hw0) hn hm).mono ?_
  rintro e w1 ⟨g, rfl, hg, ho, hn1⟩
  have n1 := hw0.trans hn1
  have B1 := b1.new hn1
  have B2 := b2.new hn1
  have c1' := B1.cells
  have f1 := B1.frees
  have c2 := B2.cells
  have f2 := B2.frees
  clear b0 b1 b2 hn1 hw0 h c0
  have S0 := s0.out
  go_wp2
  refine bodyPost_ret (v := .agg #[.int .i64 kd, .int .i64 tgt, .int .i64 me, .int .i64 at1, .int .i64 pr, .bool has, .int .i64 ee, .int .i64 ki, .int .i64 pe, .slice (some ⟨g, 0, none⟩) m m]) (by simp [results, Tryz.results47, go_sem, c1']) rfl ⟨g, rfl, by omega, ?_, ?_⟩
  · refine own_turn (S := fun i => i = w.heap.size + 1 ∨ i = w.heap.size + 1 + 1) ho ?_ (by omega)
    exact Turn.set (S := fun i => i = w.heap.size + 1 ∨ i = w.heap.size + 1 + 1) (Turn.set (S := fun i => i = w.heap.size + 1 ∨ i = w.heap.size + 1 + 1) (Turn.set (S := fun i => i = w.heap.size + 1 ∨ i = w.heap.size + 1 + 1) (Turn.set (S := fun i => i = w.heap.size + 1 ∨ i = w.heap.size + 1 + 1) (Turn.set (S := fun i => i = w.heap.size + 1 ∨ i = w.heap.size + 1 + 1) (Turn.set (S := fun i => i = w.heap.size + 1 ∨ i = w.heap.size + 1 + 1) (Turn.set (S := fun i => i = w.heap.size + 1 ∨ i = w.heap.size + 1 + 1) (Turn.set (S := fun i => i = w.heap.size + 1 ∨ i = w.heap.size + 1 + 1) (Turn.set (S := fun i => i = w.heap.size + 1 ∨ i = w.heap.size + 1 + 1) (Turn.set (S := fun i => i = w.heap.size + 1 ∨ i = w.heap.size + 1 + 1) (Turn.set (S := fun i => i = w.heap.size + 1 ∨ i = w.heap.size + 1 + 1) (Turn.set (S := fun i => i = w.heap.size + 1 ∨ i = w.heap.size + 1 + 1) (Turn.set (S := fun i => i = w.heap.size + 1 ∨ i = w.heap.size + 1 + 1) (Turn.set (S := fun i => i = w.heap.size + 1 ∨ i = w.heap.size + 1 + 1) (Turn.refl _ _) (Or.inr rfl) _) (Or.inr rfl) _) (Or.inr rfl) _) (Or.inr rfl) _) (Or.inl rfl) _) (Or.inl rfl) _) (Or.inl rfl) _) (Or.inl rfl) _) (Or.inl rfl) _) (Or.inl rfl) _) (Or.inl rfl) _) (Or.inl rfl) _) (Or.inl rfl) _) (Or.inl rfl) _
  · exact ((((((((((((((n1).setCell (by simp; try omega) _).setCell (by simp; try omega) _).setCell (by simp; try omega) _).setCell (by simp; try omega) _).setCell (by simp; try omega) _).setCell (by simp; try omega) _).setCell (by simp; try omega) _).setCell (by simp; try omega) _).setCell (by simp; try omega) _).setCell (by simp; try omega) _).setCell (by simp; try omega) _).setCell (by simp; try omega) _).setCell (by simp; try omega) _).setCell (by simp; try omega) _

theorem arr10m {α : Type} {cs : Array α} (h : cs.size = 10) : ∃ c0 c1 c2 c3 c4 c5 c6 c7 c8 c9, cs = #[c0, c1, c2, c3, c4, c5, c6, c7, c8, c9] := by
  obtain ⟨l⟩ := cs
  match l, h with
  | [c0, c1, c2, c3, c4, c5, c6, c7, c8, c9], _ => exact ⟨c0, c1, c2, c3, c4, c5, c6, c7, c8, c9, rfl⟩
theorem Tryz.cMl : Tryz.prog.cellsOf 96 = 10 := by kernel_rfl

set_option maxHeartbeats 800000 in
theorem open_mail {H : Type} {enc : TypeId × Value → H} {W : World} {base b0 : Nat} {r : Reach} {t1 : Nat → Bool} {t2 : Bool} {v : Value} {d : DataW H} {p : List MemPlace}
    (hv : Value.okWide Tryz.prog W r b0 96 v) (h0 : DataW.Trod enc Tryz.prog W base t1 t2 96 v d p) :
    ∃ (kd tgt me at1 pr : Int) (has : Bool) (ee ki pe : Int) (a : Option Addr) (m c1 : Nat) (zs : List Int), v = .agg #[.int .i64 kd, .int .i64 tgt, .int .i64 me, .int .i64 at1, .int .i64 pr, .bool has, .int .i64 ee, .int .i64 ki, .int .i64 pe, .slice a m c1] ∧ BsAt W a zs ∧ zs.length = m ∧ m ≤ maxLen := by
  obtain ⟨cs, rfl, hsz⟩ := okWide_struct Tryz.underlying96 hv
  obtain ⟨c0, c1, c2, c3, c4, c5, c6, c7, c8, c9, rfl⟩ := arr10m (hsz.trans Tryz.cMl)
  obtain ⟨fuel, hf⟩ := h0
  obtain ⟨y, hf'⟩ : ∃ y, DataW.trod enc Tryz.prog W base t1 t2 fuel 96 [c0, c1, c2, c3, c4, c5, c6, c7, c8, c9] = some y := ⟨(d, p), by simpa [Value.cells] using hf⟩
  obtain ⟨ys, m', _, rfl, hl, hlen, hq⟩ := DataW.trod_struct Tryz.underlying96 hf'
  match ys, hlen with
  | [y0, y1, y2, y3, y4, y5, y6], _ =>
    have k0 := hq 0 _ rfl
    have k1 := hq 1 _ rfl
    have k2 := hq 2 _ rfl
    have k3 := hq 3 _ rfl
    have k4 := hq 4 _ rfl
    have k5 := hq 5 _ rfl
    have k6 := hq 6 _ rfl
    simp [Tryz.cEn10, Tryz.cI9, Tryz.cBl] at k0 k1 k2 k3 k4 k5 k6
    obtain ⟨kd, e0, -, w0⟩ := DataW.trod_int Tryz.underlying2 k0
    obtain ⟨tgt, e1, -, w1⟩ := DataW.trod_int Tryz.underlying2 k1
    obtain ⟨me, e2, -, w2⟩ := DataW.trod_int Tryz.underlying2 k2
    obtain ⟨at1, e3, -, w3⟩ := DataW.trod_int Tryz.underlying2 k3
    obtain ⟨pr, e4, -, w4⟩ := DataW.trod_int Tryz.underlying2 k4
    obtain ⟨has, e5, -⟩ := DataW.trod_bool Tryz.underlying4 k5
    obtain ⟨⟨⟨ee, ki, pe, zs⟩, a, cc⟩, e6, hb, hlm⟩ := open_entry_cells k6
    simp only [List.cons.injEq, and_true] at e0 e1 e2 e3 e4 e5
    simp only [EkV.cs, List.cons.injEq, and_true] at e6
    obtain ⟨rfl, rfl, rfl, rfl⟩ := e6
    subst e0 e1 e2 e3 e4 e5
    exact ⟨kd, tgt, me, at1, pr, has, ee, ki, pe, a, _, cc, zs, rfl, hb, rfl, hlm⟩

end Go.Proofs.YtlkhmnjghdbmoaaGreatDoor

namespace Go.Proofs.YtlkhmnjghdbmoaaGreatDoor
open Go.RowKit
set_option linter.unusedVariables false
set_option linter.unusedSimpArgs false

/-- The fault of a wire. -/
def wF (E T : Int) (n m : Nat) : Int := if E < 0 ∨ 1000 < E then 3 else if 2000 < n ∨ 2000 < m then 2 else if T < 0 ∨ (n : Int) < T then 3 else 0

theorem wF_zero {E T : Int} {n m : Nat} (h : wF E T n m = 0) : (0 ≤ E ∧ E ≤ 1000) ∧ (n ≤ 2000 ∧ m ≤ 2000) ∧ 0 ≤ T ∧ T ≤ (n : Int) := by
  unfold wF at h
  split at h
  · omega
  · split at h
    · omega
    · split at h <;> omega

theorem place_yes (t : Int) (a : Option Addr) (n c : Nat) (w : World) (h : 0 ≤ t ∧ t ≤ (n : Int)) (hn : n ≤ 1048576) : Calls Tryz.prog 82 #[.int .i64 t, .slice a n c] w fun e w' => e = .returned (.bool true) ∧ w' = w := by
  obtain ⟨h1, h2⟩ := h
  go_enter Tryz.func82, Tryz.ntmps82
  go_wp2
  go_ret
  exact ⟨by simp, rfl⟩

theorem place_no (t : Int) (a : Option Addr) (n c : Nat) (w : World) (h : t < 0 ∨ (n : Int) < t) (hn : n ≤ 1048576) : Calls Tryz.prog 82 #[.int .i64 t, .slice a n c] w fun e w' => e = .returned (.bool false) ∧ w' = w := by
  by_cases h1 : 0 ≤ t
  · have h2 : (n : Int) < t := by omega
    go_enter Tryz.func82, Tryz.ntmps82
    go_wp2
    go_ret
    exact ⟨by simp; omega, rfl⟩
  · go_enter Tryz.func82, Tryz.ntmps82
    go_wp2
    go_ret
    exact ⟨rfl, rfl⟩

set_option maxHeartbeats 800000 in
theorem implWF (E T : Int) (a b : Option Addr) (n c m d : Nat) (w : World) (hn1 : n ≤ 1048576) (hm1 : m ≤ 1048576) :
    Calls Tryz.prog 51 #[.agg #[.int .i64 E, .slice a n c, .int .i64 T, .slice b m d]] w fun e w' => e = .returned (.int .i64 (wF E T n m)) ∧ New w w' := by
  have hw := (New.refl w).alloc (.cells #[.int .i64 E, .slice a n c, .int .i64 T, .slice b m d] 100)
  by_cases h1 : E < 0
  · have hf : Hid (wF E T n m = 3) := by unfold wF Hid; rw [if_pos (Or.inl h1)]
    go_enter Tryz.func51, Tryz.ntmps51
    go_wp2
    go_ret
    exact ⟨ret_i64 hf.out.symm, hw⟩
  · by_cases h2 : 1000 < E
    · have hf : Hid (wF E T n m = 3) := by unfold wF Hid; rw [if_pos (Or.inr h2)]
      go_enter Tryz.func51, Tryz.ntmps51
      go_wp2
      go_ret
      exact ⟨ret_i64 hf.out.symm, hw⟩
    · have h12 : ¬ (E < 0 ∨ 1000 < E) := by omega
      have H12 : Hid (¬ (E < 0 ∨ 1000 < E)) := h12
      clear h12
      by_cases h3 : (2000 : Int) < (n : Int)
      · have hf : Hid (wF E T n m = 2) := by unfold wF Hid; rw [if_neg H12.out, if_pos (Or.inl (by omega))]
        go_enter Tryz.func51, Tryz.ntmps51
        go_wp2
        go_ret
        exact ⟨ret_i64 hf.out.symm, hw⟩
      · by_cases h4 : (2000 : Int) < (m : Int)
        · have hf : Hid (wF E T n m = 2) := by unfold wF Hid; rw [if_neg H12.out, if_pos (Or.inr (by omega))]
          go_enter Tryz.func51, Tryz.ntmps51
          go_wp2
          go_ret
          exact ⟨ret_i64 hf.out.symm, hw⟩
        · by_cases h5 : T < 0 ∨ (n : Int) < T
          · have hf : Hid (wF E T n m = 3) := by unfold wF Hid; rw [if_neg H12.out, if_neg (by omega), if_pos h5]
            go_enter Tryz.func51, Tryz.ntmps51
            go_wp2_with fail
            refine (place_no T a n c _ h5 hn1).mono ?_
            rintro e w1 ⟨rfl, rfl⟩
            go_wp2
            go_ret
            exact ⟨ret_i64 hf.out.symm, hw⟩
          · have hf : Hid (wF E T n m = 0) := by unfold wF Hid; rw [if_neg H12.out, if_neg (by omega), if_neg h5]
            have h6 : 0 ≤ T ∧ T ≤ (n : Int) := by omega
            go_enter Tryz.func51, Tryz.ntmps51
            go_wp2_with fail
            refine (place_yes T a n c _ h6 hn1).mono ?_
            rintro e w1 ⟨rfl, rfl⟩
            go_wp2
            go_ret
            exact ⟨ret_i64 hf.out.symm, hw⟩

set_option maxHeartbeats 800000 in
theorem specWF (E T : Int) (a b : Option Addr) (n c m d : Nat) (w : World) (hn1 : n ≤ 1048576) (hm1 : m ≤ 1048576) :
    Calls Tryz.prog 39 #[.agg #[.int .i64 E, .slice a n c, .int .i64 T, .slice b m d]] w fun e w' => e = .returned (.int .i64 (wF E T n m)) ∧ New w w' := by
  have hw := (New.refl w).alloc (.cells #[.int .i64 E, .slice a n c, .int .i64 T, .slice b m d] 100)
  have b0 := Blk.mk w w.heap.size 100 #[.int .i64 E, .slice a n c, .int .i64 T, .slice b m d] rfl
  have c0 := b0.cells
  by_cases h1 : E < 0 ∨ 1000 < E
  · have hf : Hid (wF E T n m = 3) := by unfold wF Hid; rw [if_pos h1]
    go_enter Tryz.func39, Tryz.ntmps39
    go_wp2_with fail
    refine (in_no E 0 1000 _ h1).mono ?_
    rintro e w1 ⟨rfl, rfl⟩
    go_wp2
    go_ret
    exact ⟨ret_i64 hf.out.symm, hw⟩
  · have h1' : 0 ≤ E ∧ E ≤ 1000 := by omega
    by_cases h3 : (2000 : Int) < (n : Int)
    · have hf : Hid (wF E T n m = 2) := by unfold wF Hid; rw [if_neg h1, if_pos (Or.inl (by omega))]
      go_enter Tryz.func39, Tryz.ntmps39
      go_wp2_with fail
      refine (in_yes E 0 1000 _ h1').mono ?_
      rintro e w1 ⟨rfl, rfl⟩
      go_wp2
      go_ret
      exact ⟨ret_i64 hf.out.symm, hw⟩
    · by_cases h4 : (2000 : Int) < (m : Int)
      · have hf : Hid (wF E T n m = 2) := by unfold wF Hid; rw [if_neg h1, if_pos (Or.inr (by omega))]
        go_enter Tryz.func39, Tryz.ntmps39
        go_wp2_with fail
        refine (in_yes E 0 1000 _ h1').mono ?_
        rintro e w1 ⟨rfl, rfl⟩
        go_wp2
        go_ret
        exact ⟨ret_i64 hf.out.symm, hw⟩
      · by_cases h5 : T < 0 ∨ (n : Int) < T
        · have hf : Hid (wF E T n m = 3) := by unfold wF Hid; rw [if_neg h1, if_neg (by omega), if_pos h5]
          go_enter Tryz.func39, Tryz.ntmps39
          go_wp2_with fail
          refine (in_yes E 0 1000 _ h1').mono ?_
          rintro e w1 ⟨rfl, rfl⟩
          go_wp2_with fail
          refine (in_no T 0 n _ h5).mono ?_
          rintro e w1 ⟨rfl, rfl⟩
          go_wp2
          go_ret
          exact ⟨ret_i64 hf.out.symm, hw⟩
        · have hf : Hid (wF E T n m = 0) := by unfold wF Hid; rw [if_neg h1, if_neg (by omega), if_neg h5]
          have h6 : 0 ≤ T ∧ T ≤ (n : Int) := by omega
          go_enter Tryz.func39, Tryz.ntmps39
          go_wp2_with fail
          refine (in_yes E 0 1000 _ h1').mono ?_
          rintro e w1 ⟨rfl, rfl⟩
          go_wp2_with fail
          refine (in_yes T 0 n _ h6).mono ?_
          rintro e w1 ⟨rfl, rfl⟩
          go_wp2
          go_ret
          exact ⟨ret_i64 hf.out.symm, hw⟩

end Go.Proofs.YtlkhmnjghdbmoaaGreatDoor

namespace Go.Proofs.YtlkhmnjghdbmoaaGreatDoor
open Go.RowKit
set_option linter.unusedVariables false

set_option maxHeartbeats 800000 in
theorem szW_ok (E T : Int) (a b : Option Addr) (n c m d l : Nat) (w : World) (hl : l ≤ 1048576) (h : n + m ≤ l) : Calls Tryz.prog 34 #[.agg #[.int .i64 E, .slice a n c, .int .i64 T, .slice b m d], .int .i64 l] w fun e w' => e = .returned (.int .i64 ((l : Int) - n - m)) ∧ New w w' := by
  have hw := (New.refl w).alloc (.cells #[.int .i64 E, .slice a n c, .int .i64 T, .slice b m d] 89)
  have b0 := Blk.mk w w.heap.size 89 #[.int .i64 E, .slice a n c, .int .i64 T, .slice b m d] rfl
  obtain ⟨q, rfl⟩ := Nat.exists_eq_add_of_le (Nat.le_trans (Nat.le_add_right n m) h)
  have e1 : (((n + q : Nat) : Int) - n) = (q : Int) := by omega
  go_enter Tryz.func34, Tryz.ntmps34
  go_wp2_with fail
  refine (szBytes_ok a n c (n + q) _ hl (by omega)).mono ?_
  rintro e w1 ⟨rfl, hn1⟩
  rw [e1]
  have c1 := (b0.new hn1).cells
  go_wp2_with fail
  refine (szBytes_ok b m d q _ (by omega) (by omega)).mono ?_
  rintro e w2 ⟨rfl, hn2⟩
  go_wp2
  go_ret
  exact ⟨ret_i64 (by omega), (hw.trans hn1).trans hn2⟩

set_option maxHeartbeats 800000 in
theorem szW_big (E T : Int) (a b : Option Addr) (n c m d l : Nat) (w : World) (hl : l ≤ 1048576) (hn : n ≤ maxLen) (hm : m ≤ maxLen) (h : l < n + m) : Calls Tryz.prog 34 #[.agg #[.int .i64 E, .slice a n c, .int .i64 T, .slice b m d], .int .i64 l] w fun e w' => e = .returned (.int .i64 (-1)) ∧ New w w' := by
  have hw := (New.refl w).alloc (.cells #[.int .i64 E, .slice a n c, .int .i64 T, .slice b m d] 89)
  have b0 := Blk.mk w w.heap.size 89 #[.int .i64 E, .slice a n c, .int .i64 T, .slice b m d] rfl
  by_cases h1 : l < n
  · go_enter Tryz.func34, Tryz.ntmps34
    go_wp2_with fail
    refine (szBytes_big a n c l _ hl hn h1).mono ?_
    rintro e w1 ⟨rfl, hn1⟩
    go_wp2
    go_ret
    exact ⟨rfl, hw.trans hn1⟩
  · obtain ⟨q, rfl⟩ := Nat.exists_eq_add_of_le (Nat.le_of_not_lt h1)
    have e1 : (((n + q : Nat) : Int) - n) = (q : Int) := by omega
    go_enter Tryz.func34, Tryz.ntmps34
    go_wp2_with fail
    refine (szBytes_ok a n c (n + q) _ hl (by omega)).mono ?_
    rintro e w1 ⟨rfl, hn1⟩
    rw [e1]
    have c1 := (b0.new hn1).cells
    go_wp2_with fail
    refine (szBytes_big b m d q _ (by omega) hm (by omega)).mono ?_
    rintro e w2 ⟨rfl, hn2⟩
    go_wp2
    go_ret
    exact ⟨rfl, (hw.trans hn1).trans hn2⟩

set_option maxHeartbeats 1600000 in
theorem toW_any (E T : Int) (a b : Option Addr) (n c m d : Nat) (zs ys : List Int) (w : World) (h : BsAt w a zs) (k : BsAt w b ys) (hn : zs.length = n) (hm : ys.length = m) (hn1 : n ≤ 1048576) (hm1 : m ≤ 1048576) :
    Calls Tryz.prog 46 #[.agg #[.int .i64 E, .slice a n c, .int .i64 T, .slice b m d]] w fun e w' => ∃ g g2, e = .returned (.agg #[.int .i64 E, .slice (some ⟨g, 0, none⟩) n n, .int .i64 T, .slice (some ⟨g2, 0, none⟩) m m]) ∧ w.heap.size ≤ g ∧ g < g2 ∧
      w'.ownsRow 0 5 1 (.slice (some ⟨g, 0, none⟩) n n) n (zs.map (Value.int .u8)) ∧ w'.ownsRow 0 5 1 (.slice (some ⟨g2, 0, none⟩) m m) m (ys.map (Value.int .u8)) ∧ New w w' := by
  have hw := (((New.refl w).alloc (.cells #[.int .i64 E, .slice a n c, .int .i64 T, .slice b m d] 89)).alloc (.cells #[.int .i64 0, .slice none 0 0, .int .i64 0, .slice none 0 0] 100)).alloc (.cells #[.int .i64 E, .slice none 0 0, .int .i64 0, .slice none 0 0] 100)
  have b0 := ((Blk.mk w w.heap.size 89 #[.int .i64 E, .slice a n c, .int .i64 T, .slice b m d] rfl).alloc (.cells #[.int .i64 0, .slice none 0 0, .int .i64 0, .slice none 0 0] 100)).alloc (.cells #[.int .i64 E, .slice none 0 0, .int .i64 0, .slice none 0 0] 100)
  have b1 := (Blk.mk (w.alloc (.cells #[.int .i64 E, .slice a n c, .int .i64 T, .slice b m d] 89)) (w.heap.size + 1) 100 #[.int .i64 0, .slice none 0 0, .int .i64 0, .slice none 0 0] (by simp)).alloc (.cells #[.int .i64 E, .slice none 0 0, .int .i64 0, .slice none 0 0] 100)
  have b2 := Blk.mk ((w.alloc (.cells #[.int .i64 E, .slice a n c, .int .i64 T, .slice b m d] 89)).alloc (.cells #[.int .i64 0, .slice none 0 0, .int .i64 0, .slice none 0 0] 100)) (w.heap.size + 1 + 1) 100 #[.int .i64 E, .slice none 0 0, .int .i64 0, .slice none 0 0] (by simp)
  go_enter Tryz.func46, Tryz.ntmps46
  go_wp2_with fail
  refine (toBytes_any a n c zs _ (h.new hw) hn hn1).mono ?_
  rintro e w1 ⟨g, rfl, hg, ho, hn1'⟩
  simp at hg
  have b01 := b0.new hn1'
  have b11 := b1.new hn1'
  have b21 := b2.new hn1'
  have hw1 := hw.trans hn1'
  have c2 := b21.cells
  have f2 := b21.frees
  have c0 := b01.cells
  have hl1 := (ho.lt g rfl).2
  have l0 := b01.lt
  have l1 := b11.lt
  have l2 := b21.lt
  have b22' : Blk (w1.setCell ⟨w.heap.size + 1 + 1, 1, none⟩ (.slice (some ⟨g, 0, none⟩) n n)) (w.heap.size + 1 + 1) 100 #[.int .i64 E, .slice (some ⟨g, 0, none⟩) n n, .int .i64 0, .slice none 0 0] := b21.set 1 _
  have b22 : Blk ((w1.setCell ⟨w.heap.size + 1 + 1, 1, none⟩ (.slice (some ⟨g, 0, none⟩) n n)).setCell ⟨w.heap.size + 1 + 1, 2, none⟩ (.int .i64 T)) (w.heap.size + 1 + 1) 100 #[.int .i64 E, .slice (some ⟨g, 0, none⟩) n n, .int .i64 T, .slice none 0 0] := b22'.set 2 _
  have t1 : Turn (fun i => i = w.heap.size + 1 + 1) w1 ((w1.setCell ⟨w.heap.size + 1 + 1, 1, none⟩ (.slice (some ⟨g, 0, none⟩) n n)).setCell ⟨w.heap.size + 1 + 1, 2, none⟩ (.int .i64 T)) := Turn.set (S := fun i => i = w.heap.size + 1 + 1) (Turn.set (S := fun i => i = w.heap.size + 1 + 1) (Turn.refl _ _) rfl _) rfl _
  have b02 := b01.turn t1 (by omega)
  have b12 := b11.turn t1 (by omega)
  have hw2 : New w ((w1.setCell ⟨w.heap.size + 1 + 1, 1, none⟩ (.slice (some ⟨g, 0, none⟩) n n)).setCell ⟨w.heap.size + 1 + 1, 2, none⟩ (.int .i64 T)) := hw1.before t1 (by intro i hi h; omega)
  have ho2 := own_turn ho t1 (by omega)
  have sz2 : w1.heap.size ≤ ((w1.setCell ⟨w.heap.size + 1 + 1, 1, none⟩ (.slice (some ⟨g, 0, none⟩) n n)).setCell ⟨w.heap.size + 1 + 1, 2, none⟩ (.int .i64 T)).heap.size := t1.size
  go_upto_region 5 with fail
  generalize ((w1.setCell ⟨w.heap.size + 1 + 1, 1, none⟩ (.slice (some ⟨g, 0, none⟩) n n)).setCell ⟨w.heap.size + 1 + 1, 2, none⟩ (.int .i64 T)) = w2 at *
  clear c2 f2 c0
  have c0 := b02.cells
  go_wp2_with fail
  refine (toBytes_any b m d ys _ (k.new hw2) hm hm1).mono ?_
  rintro e w3 ⟨g2, rfl, hg2, ho3, hn3⟩
  have b13 := b12.new hn3
  have b23 := b22.new hn3
  have hw3 := hw2.trans hn3
  have ho33 := own_new ho2 hn3
  have c1 := b13.cells
  have f1 := b13.frees
  have c2 := b23.cells
  have f2 := b23.frees
  have l13 := b13.lt
  go_wp2
  refine bodyPost_ret (v := .agg #[.int .i64 E, .slice (some ⟨g, 0, none⟩) n n, .int .i64 T, .slice (some ⟨g2, 0, none⟩) m m]) (by simp [results, Tryz.results46, go_sem, c1]) rfl ⟨g, g2, rfl, by omega, by omega, ?_, ?_, ?_⟩
  · refine own_turn (S := fun i => i = w.heap.size + 1 ∨ i = w.heap.size + 1 + 1) ho33 ?_ (by omega)
    exact Turn.set (S := fun i => i = w.heap.size + 1 ∨ i = w.heap.size + 1 + 1) (Turn.set (S := fun i => i = w.heap.size + 1 ∨ i = w.heap.size + 1 + 1) (Turn.set (S := fun i => i = w.heap.size + 1 ∨ i = w.heap.size + 1 + 1) (Turn.set (S := fun i => i = w.heap.size + 1 ∨ i = w.heap.size + 1 + 1) (Turn.set (S := fun i => i = w.heap.size + 1 ∨ i = w.heap.size + 1 + 1) (Turn.refl _ _) (Or.inr rfl) _) (Or.inl rfl) _) (Or.inl rfl) _) (Or.inl rfl) _) (Or.inl rfl) _
  · refine own_turn (S := fun i => i = w.heap.size + 1 ∨ i = w.heap.size + 1 + 1) ho3 ?_ (by omega)
    exact Turn.set (S := fun i => i = w.heap.size + 1 ∨ i = w.heap.size + 1 + 1) (Turn.set (S := fun i => i = w.heap.size + 1 ∨ i = w.heap.size + 1 + 1) (Turn.set (S := fun i => i = w.heap.size + 1 ∨ i = w.heap.size + 1 + 1) (Turn.set (S := fun i => i = w.heap.size + 1 ∨ i = w.heap.size + 1 + 1) (Turn.set (S := fun i => i = w.heap.size + 1 ∨ i = w.heap.size + 1 + 1) (Turn.refl _ _) (Or.inr rfl) _) (Or.inl rfl) _) (Or.inl rfl) _) (Or.inl rfl) _) (Or.inl rfl) _
  · exact ((((hw3.setCell (by simp; omega) _).setCell (by simp) _).setCell (by simp) _).setCell (by simp) _).setCell (by simp) _

set_option maxHeartbeats 800000 in
theorem eqW_any (E T : Int) (a b a' b' : Option Addr) (n c m d c' d' : Nat) (zs ys : List Int) (w : World) (ha : BsAt w a zs) (hb : BsAt w b ys) (ha' : BsAt w a' zs) (hb' : BsAt w b' ys) (hn : zs.length = n) (hm : ys.length = m) (hn1 : n ≤ 1048576) (hm1 : m ≤ 1048576) :
    Calls Tryz.prog 61 #[.agg #[.int .i64 E, .slice a n c, .int .i64 T, .slice b m d], .agg #[.int .i64 E, .slice a' n c', .int .i64 T, .slice b' m d']] w fun e w' => e = .returned (.bool true) ∧ New w w' := by
  have hE : (E != E) = false := by simp
  have hT : (T != T) = false := by simp
  have hw := ((New.refl w).alloc (.cells #[.int .i64 E, .slice a n c, .int .i64 T, .slice b m d] 100)).alloc (.cells #[.int .i64 E, .slice a' n c', .int .i64 T, .slice b' m d'] 100)
  have b0 := (Blk.mk w w.heap.size 100 #[.int .i64 E, .slice a n c, .int .i64 T, .slice b m d] rfl).alloc (.cells #[.int .i64 E, .slice a' n c', .int .i64 T, .slice b' m d'] 100)
  have b1 := Blk.mk (w.alloc (.cells #[.int .i64 E, .slice a n c, .int .i64 T, .slice b m d] 100)) (w.heap.size + 1) 100 #[.int .i64 E, .slice a' n c', .int .i64 T, .slice b' m d'] (by simp)
  go_enter Tryz.func61, Tryz.ntmps61
  go_wp2_with fail
  refine (eqBytes_any a a' n c c' zs _ (ha.new hw) (ha'.new hw) hn hn1).mono ?_
  rintro e w1 ⟨rfl, hn1'⟩
  have c0 := (b0.new hn1').cells
  have c1 := (b1.new hn1').cells
  have hw1 := hw.trans hn1'
  go_wp2_with fail
  refine (eqBytes_any b b' m d d' ys _ (hb.new hw1) (hb'.new hw1) hm hm1).mono ?_
  rintro e w2 ⟨rfl, hn2⟩
  go_wp2
  go_ret
  exact ⟨rfl, hw1.trans hn2⟩

end Go.Proofs.YtlkhmnjghdbmoaaGreatDoor

namespace Go.Proofs.YtlkhmnjghdbmoaaGreatDoor
open Go.ChangeShapes Go.WideShapes Go.ChangeAt Go.RowKit Go.Deep
set_option linter.unusedVariables false

theorem arr4w {α : Type} {cs : Array α} (h : cs.size = 4) : ∃ c0 c1 c2 c3, cs = #[c0, c1, c2, c3] := by
  obtain ⟨l⟩ := cs
  match l, h with
  | [c0, c1, c2, c3], _ => exact ⟨c0, c1, c2, c3, rfl⟩
theorem Tryz.cW11 : Tryz.prog.cellsOf 89 = 4 := by kernel_rfl
theorem Tryz.cB11 : Tryz.prog.cellsOf 66 = 1 := by kernel_rfl
theorem Tryz.cI11 : Tryz.prog.cellsOf 2 = 1 := by kernel_rfl

set_option maxRecDepth 100000 in
theorem open_wire {H : Type} {enc : TypeId × Value → H} {W : World} {base b0 : Nat} {r : Reach} {t1 : Nat → Bool} {t2 : Bool} {v : Value} {d : DataW H} {p : List MemPlace}
    (hv : Value.okWide Tryz.prog W r b0 89 v) (h0 : DataW.Trod enc Tryz.prog W base t1 t2 89 v d p) :
    ∃ (E T : Int) (a b : Option Addr) (n c m d : Nat) (zs ys : List Int), v = .agg #[.int .i64 E, .slice a n c, .int .i64 T, .slice b m d] ∧ (Lit.int .i64 E).wf = true ∧ (Lit.int .i64 T).wf = true ∧ BsAt W a zs ∧ BsAt W b ys ∧ zs.length = n ∧ ys.length = m ∧ n ≤ maxLen ∧ m ≤ maxLen := by
  obtain ⟨cs, rfl, hsz⟩ := okWide_struct Tryz.underlying89 hv
  obtain ⟨c0, c1, c2, c3, rfl⟩ := arr4w (hsz.trans Tryz.cW11)
  obtain ⟨fuel, hf⟩ := h0
  obtain ⟨y, hf'⟩ : ∃ y, DataW.trod enc Tryz.prog W base t1 t2 fuel 89 [c0, c1, c2, c3] = some y := ⟨(d, p), by simpa [Value.cells] using hf⟩
  obtain ⟨ys, m, _, rfl, hl, hlen, hq⟩ := DataW.trod_struct Tryz.underlying89 hf'
  match ys, hlen with
  | [y0, y1, y2, y3], _ =>
    have k0 := hq 0 _ rfl
    have k1 := hq 1 _ rfl
    have k2 := hq 2 _ rfl
    have k3 := hq 3 _ rfl
    simp [Tryz.cB11, Tryz.cI11] at k0 k1 k2 k3
    obtain ⟨E, e0, -, wE⟩ := DataW.trod_int Tryz.underlying2 k0
    simp only [List.cons.injEq, and_true] at e0
    subst e0
    obtain ⟨T, e2, -, wT⟩ := DataW.trod_int Tryz.underlying2 k2
    simp only [List.cons.injEq, and_true] at e2
    subst e2
    have hb0 : ∃ (a : Option Addr) (n c : Nat), c1 = .slice a n c := by
      rcases open_ints Tryz.underlying66 Tryz.underlying5 (by kernel_rfl) k1 with ⟨hcs, _⟩ | ⟨x, l, c, zs, hcs, _⟩
      · simp only [List.cons.injEq, and_true] at hcs
        exact ⟨none, 0, 0, hcs⟩
      · simp only [List.cons.injEq, and_true] at hcs
        exact ⟨some x, l, c, hcs⟩
    have hb1 : ∃ (a : Option Addr) (n c : Nat), c3 = .slice a n c := by
      rcases open_ints Tryz.underlying66 Tryz.underlying5 (by kernel_rfl) k3 with ⟨hcs, _⟩ | ⟨x, l, c, zs, hcs, _⟩
      · simp only [List.cons.injEq, and_true] at hcs
        exact ⟨none, 0, 0, hcs⟩
      · simp only [List.cons.injEq, and_true] at hcs
        exact ⟨some x, l, c, hcs⟩
    obtain ⟨a, n, c, rfl⟩ := hb0
    obtain ⟨b, m', d', rfl⟩ := hb1
    obtain ⟨zs, h1, h2, h3, h4⟩ := open_bytes (enc := enc) (W := W) (base := base) (t1 := t1) (t2 := t2) (a := a) (n := n) (c := c) (d := y1.1) (p := y1.2) ⟨m, by simpa [Value.cells] using k1⟩
    obtain ⟨us, i1, i2, i3, i4⟩ := open_bytes (enc := enc) (W := W) (base := base) (t1 := t1) (t2 := t2) (a := b) (n := m') (c := d') (d := y3.1) (p := y3.2) ⟨m, by simpa [Value.cells] using k3⟩
    exact ⟨E, T, a, b, n, c, m', d', zs, us, rfl, wE, wT, h1, i1, h2, i2, h4, i4⟩

end Go.Proofs.YtlkhmnjghdbmoaaGreatDoor
