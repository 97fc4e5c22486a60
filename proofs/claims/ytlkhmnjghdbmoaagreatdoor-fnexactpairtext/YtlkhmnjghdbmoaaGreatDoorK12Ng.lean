/- What is proved here: what the model's judging of a node answers, for every node of at most 2097152 entries and bytes. -/
import Derived.Test.YtlkhmnjghdbmoaaGreatDoorK12Nf
namespace Go.Proofs.YtlkhmnjghdbmoaaGreatDoor
open Go.RowKit Go.Sort
set_option linter.unusedVariables false
set_option linter.unusedSimpArgs false

variable {o : Nat}

theorem specLFv (v : Int) (B : Nat) (id : Int) (up : Bool) (ro ep su ma ot co : Int) (A : Option Addr) (n c : Nat) (V : List EkV) (w : World) (hb : NdC w B o #[.int .i64 id, .bool up, .int .i64 ro, .int .i64 ep, .slice A n c, .int .i64 su, .int .i64 ma, .int .i64 ot, .int .i64 co]) (h : LgAt w A V) (hn : V.length = n) (hm : n ≤ 2097152) (hv : lg2 n (lgF ep 0 (V.map EkV.r)) = v) :
    Calls Tryz.prog 97 #[.pointer (some ⟨B, o, none⟩)] w fun e w' => e = .returned (.int .i64 v) ∧ New w w' := by
  rw [← hv]
  exact specLF B id up ro ep su ma ot co A n c V w hb h hn hm

set_option maxHeartbeats 1600000 in
theorem sg1 (B : Nat) (id : Int) (up : Bool) (ro ep su ma ot co : Int) (A : Option Addr) (n c : Nat) (V : List EkV) (w : World) (bN : NdC w B o #[.int .i64 id, .bool up, .int .i64 ro, .int .i64 ep, .slice A n c, .int .i64 su, .int .i64 ma, .int .i64 ot, .int .i64 co]) (h : LgAt w A V) (hn : V.length = n) (hm : n ≤ 2097152) (hid : id < 0 ∨ 1 < id) :
    Calls Tryz.prog 69 #[.pointer (some ⟨B, o, none⟩)] w fun e w' => e = .returned (.int .i64 3) ∧ New w w' := by
  have cN := bN.cells
  go_enter Tryz.func69, Tryz.ntmps69
  go_wp2_with fail
  refine (in_no id 0 1 _ hid).mono ?_
  rintro e w1 ⟨rfl, rfl⟩
  go_wp2
  go_ret
  exact ⟨rfl, New.refl _⟩

set_option maxHeartbeats 1600000 in
theorem sg2 (B : Nat) (id : Int) (up : Bool) (ro ep su ma ot co : Int) (A : Option Addr) (n c : Nat) (V : List EkV) (w : World) (bN : NdC w B o #[.int .i64 id, .bool up, .int .i64 ro, .int .i64 ep, .slice A n c, .int .i64 su, .int .i64 ma, .int .i64 ot, .int .i64 co]) (h : LgAt w A V) (hn : V.length = n) (hm : n ≤ 2097152) (hid : 0 ≤ id ∧ id ≤ 1) (hro : ro < 0 ∨ 1 < ro) :
    Calls Tryz.prog 69 #[.pointer (some ⟨B, o, none⟩)] w fun e w' => e = .returned (.int .i64 3) ∧ New w w' := by
  have cN := bN.cells
  go_enter Tryz.func69, Tryz.ntmps69
  go_wp2_with fail
  refine (in_yes id 0 1 _ hid).mono ?_
  rintro e w1 ⟨rfl, rfl⟩
  go_wp2_with fail
  refine (in_no ro 0 1 _ hro).mono ?_
  rintro e w1 ⟨rfl, rfl⟩
  go_wp2
  go_ret
  exact ⟨rfl, New.refl _⟩

set_option maxHeartbeats 1600000 in
theorem sg3 (B : Nat) (id : Int) (up : Bool) (ro ep su ma ot co : Int) (A : Option Addr) (n c : Nat) (V : List EkV) (w : World) (bN : NdC w B o #[.int .i64 id, .bool up, .int .i64 ro, .int .i64 ep, .slice A n c, .int .i64 su, .int .i64 ma, .int .i64 ot, .int .i64 co]) (h : LgAt w A V) (hn : V.length = n) (hm : n ≤ 2097152) (hid : 0 ≤ id ∧ id ≤ 1) (hro : 0 ≤ ro ∧ ro ≤ 1) (hep : ep < 0 ∨ 1000 < ep) :
    Calls Tryz.prog 69 #[.pointer (some ⟨B, o, none⟩)] w fun e w' => e = .returned (.int .i64 3) ∧ New w w' := by
  have cN := bN.cells
  go_enter Tryz.func69, Tryz.ntmps69
  go_wp2_with fail
  refine (in_yes id 0 1 _ hid).mono ?_
  rintro e w1 ⟨rfl, rfl⟩
  go_wp2_with fail
  refine (in_yes ro 0 1 _ hro).mono ?_
  rintro e w1 ⟨rfl, rfl⟩
  go_wp2_with fail
  refine (in_no ep 0 1000 _ hep).mono ?_
  rintro e w1 ⟨rfl, rfl⟩
  go_wp2
  go_ret
  exact ⟨rfl, New.refl _⟩

set_option maxHeartbeats 1600000 in
theorem sg5 (B : Nat) (id : Int) (up : Bool) (ro ep su ma ot co : Int) (A : Option Addr) (n c : Nat) (V : List EkV) (w : World) (bN : NdC w B o #[.int .i64 id, .bool up, .int .i64 ro, .int .i64 ep, .slice A n c, .int .i64 su, .int .i64 ma, .int .i64 ot, .int .i64 co]) (h : LgAt w A V) (hn : V.length = n) (hm : n ≤ 2097152) (hid : 0 ≤ id ∧ id ≤ 1) (hro : 0 ≤ ro ∧ ro ≤ 1) (hep : 0 ≤ ep ∧ ep ≤ 1000) (f : Int) (hlg : lg2 n (lgF ep 0 (V.map EkV.r)) = f) (hf : ¬ f = 0) :
    Calls Tryz.prog 69 #[.pointer (some ⟨B, o, none⟩)] w fun e w' => e = .returned (.int .i64 f) ∧ New w w' := by
  have cN := bN.cells
  go_enter Tryz.func69, Tryz.ntmps69
  go_wp2_with fail
  refine (in_yes id 0 1 _ hid).mono ?_
  rintro e w1 ⟨rfl, rfl⟩
  go_wp2_with fail
  refine (in_yes ro 0 1 _ hro).mono ?_
  rintro e w1 ⟨rfl, rfl⟩
  go_wp2_with fail
  refine (in_yes ep 0 1000 _ hep).mono ?_
  rintro e w1 ⟨rfl, rfl⟩
  go_wp2_with fail
  refine (specLFv f B id up ro ep su ma ot co A n c V _ bN h hn hm hlg).mono ?_
  rintro e w2 ⟨rfl, hw2⟩
  have b2 := bN.new hw2
  have c2 := b2.cells
  clear cN
  go_wp2
  go_ret
  exact ⟨rfl, hw2⟩

set_option maxHeartbeats 1600000 in
theorem sg7 (B : Nat) (id : Int) (up : Bool) (ro ep su ma ot co : Int) (A : Option Addr) (n c : Nat) (V : List EkV) (w : World) (bN : NdC w B o #[.int .i64 id, .bool up, .int .i64 ro, .int .i64 ep, .slice A n c, .int .i64 su, .int .i64 ma, .int .i64 ot, .int .i64 co]) (h : LgAt w A V) (hn : V.length = n) (hm : n ≤ 2097152) (hid : 0 ≤ id ∧ id ≤ 1) (hro : 0 ≤ ro ∧ ro ≤ 1) (hep : 0 ≤ ep ∧ ep ≤ 1000) (hlg : lg2 n (lgF ep 0 (V.map EkV.r)) = 0) (hsu : su < 0 ∨ (n : Int) < su) :
    Calls Tryz.prog 69 #[.pointer (some ⟨B, o, none⟩)] w fun e w' => e = .returned (.int .i64 3) ∧ New w w' := by
  have cN := bN.cells
  go_enter Tryz.func69, Tryz.ntmps69
  go_wp2_with fail
  refine (in_yes id 0 1 _ hid).mono ?_
  rintro e w1 ⟨rfl, rfl⟩
  go_wp2_with fail
  refine (in_yes ro 0 1 _ hro).mono ?_
  rintro e w1 ⟨rfl, rfl⟩
  go_wp2_with fail
  refine (in_yes ep 0 1000 _ hep).mono ?_
  rintro e w1 ⟨rfl, rfl⟩
  go_wp2_with fail
  refine (specLFv 0 B id up ro ep su ma ot co A n c V _ bN h hn hm hlg).mono ?_
  rintro e w2 ⟨rfl, hw2⟩
  have b2 := bN.new hw2
  have c2 := b2.cells
  clear cN
  go_wp2_with fail
  have CN := ndc_regrown b2
  refine wp_region_quiet_below (by kernel_rfl) (by kernel_rfl) ?_
  repeat (go_big_quiet_step ((first | (go_at_call_of 70 (n : Int); (first | (go_at_call_of 70 su; exact calls_regrown_same (in_no su 0 n _ hsu)))))))
  refine wpQuiet_nil ?_
  rintro w3 hn3
  replace hn3 := new_of_regrown hn3
  have b3 := b2.new hn3
  have c3 := b3.cells
  have hw3 := hw2.trans hn3
  clear CN c2
  go_wp2
  go_ret
  exact ⟨rfl, hw3⟩

set_option maxHeartbeats 1600000 in
theorem sg8 (B : Nat) (id : Int) (up : Bool) (ro ep su ma ot co : Int) (A : Option Addr) (n c : Nat) (V : List EkV) (w : World) (bN : NdC w B o #[.int .i64 id, .bool up, .int .i64 ro, .int .i64 ep, .slice A n c, .int .i64 su, .int .i64 ma, .int .i64 ot, .int .i64 co]) (h : LgAt w A V) (hn : V.length = n) (hm : n ≤ 2097152) (hid : 0 ≤ id ∧ id ≤ 1) (hro : 0 ≤ ro ∧ ro ≤ 1) (hep : 0 ≤ ep ∧ ep ≤ 1000) (hlg : lg2 n (lgF ep 0 (V.map EkV.r)) = 0) (hsu : 0 ≤ su ∧ su ≤ n) (hma : ma < 0 ∨ (n : Int) < ma) :
    Calls Tryz.prog 69 #[.pointer (some ⟨B, o, none⟩)] w fun e w' => e = .returned (.int .i64 3) ∧ New w w' := by
  have cN := bN.cells
  go_enter Tryz.func69, Tryz.ntmps69
  go_wp2_with fail
  refine (in_yes id 0 1 _ hid).mono ?_
  rintro e w1 ⟨rfl, rfl⟩
  go_wp2_with fail
  refine (in_yes ro 0 1 _ hro).mono ?_
  rintro e w1 ⟨rfl, rfl⟩
  go_wp2_with fail
  refine (in_yes ep 0 1000 _ hep).mono ?_
  rintro e w1 ⟨rfl, rfl⟩
  go_wp2_with fail
  refine (specLFv 0 B id up ro ep su ma ot co A n c V _ bN h hn hm hlg).mono ?_
  rintro e w2 ⟨rfl, hw2⟩
  have b2 := bN.new hw2
  have c2 := b2.cells
  clear cN
  go_wp2_with fail
  have CN := ndc_regrown b2
  refine wp_region_quiet_below (by kernel_rfl) (by kernel_rfl) ?_
  repeat (go_big_quiet_step ((first | (go_at_call_of 70 (n : Int); (first | (go_at_call_of 70 su; exact calls_regrown_same (in_yes su 0 n _ hsu)) | (go_at_call_of 70 ma; exact calls_regrown_same (in_no ma 0 n _ hma)))))))
  refine wpQuiet_nil ?_
  rintro w3 hn3
  replace hn3 := new_of_regrown hn3
  have b3 := b2.new hn3
  have c3 := b3.cells
  have hw3 := hw2.trans hn3
  clear CN c2
  go_wp2
  go_ret
  exact ⟨rfl, hw3⟩

set_option maxHeartbeats 1600000 in
theorem sg9 (B : Nat) (id : Int) (up : Bool) (ro ep su ma ot co : Int) (A : Option Addr) (n c : Nat) (V : List EkV) (w : World) (bN : NdC w B o #[.int .i64 id, .bool up, .int .i64 ro, .int .i64 ep, .slice A n c, .int .i64 su, .int .i64 ma, .int .i64 ot, .int .i64 co]) (h : LgAt w A V) (hn : V.length = n) (hm : n ≤ 2097152) (hid : 0 ≤ id ∧ id ≤ 1) (hro : 0 ≤ ro ∧ ro ≤ 1) (hep : 0 ≤ ep ∧ ep ≤ 1000) (hlg : lg2 n (lgF ep 0 (V.map EkV.r)) = 0) (hsu : 0 ≤ su ∧ su ≤ n) (hma : 0 ≤ ma ∧ ma ≤ n) (hot : ot < 0 ∨ (n : Int) < ot) :
    Calls Tryz.prog 69 #[.pointer (some ⟨B, o, none⟩)] w fun e w' => e = .returned (.int .i64 3) ∧ New w w' := by
  have cN := bN.cells
  go_enter Tryz.func69, Tryz.ntmps69
  go_wp2_with fail
  refine (in_yes id 0 1 _ hid).mono ?_
  rintro e w1 ⟨rfl, rfl⟩
  go_wp2_with fail
  refine (in_yes ro 0 1 _ hro).mono ?_
  rintro e w1 ⟨rfl, rfl⟩
  go_wp2_with fail
  refine (in_yes ep 0 1000 _ hep).mono ?_
  rintro e w1 ⟨rfl, rfl⟩
  go_wp2_with fail
  refine (specLFv 0 B id up ro ep su ma ot co A n c V _ bN h hn hm hlg).mono ?_
  rintro e w2 ⟨rfl, hw2⟩
  have b2 := bN.new hw2
  have c2 := b2.cells
  clear cN
  go_wp2_with fail
  have CN := ndc_regrown b2
  refine wp_region_quiet_below (by kernel_rfl) (by kernel_rfl) ?_
  repeat (go_big_quiet_step ((first | (go_at_call_of 70 (n : Int); (first | (go_at_call_of 70 su; exact calls_regrown_same (in_yes su 0 n _ hsu)) | (go_at_call_of 70 ma; exact calls_regrown_same (in_yes ma 0 n _ hma)) | (go_at_call_of 70 ot; exact calls_regrown_same (in_no ot 0 n _ hot)))))))
  refine wpQuiet_nil ?_
  rintro w3 hn3
  replace hn3 := new_of_regrown hn3
  have b3 := b2.new hn3
  have c3 := b3.cells
  have hw3 := hw2.trans hn3
  clear CN c2
  go_wp2
  go_ret
  exact ⟨rfl, hw3⟩

set_option maxHeartbeats 1600000 in
theorem sg10 (B : Nat) (id : Int) (up : Bool) (ro ep su ma ot co : Int) (A : Option Addr) (n c : Nat) (V : List EkV) (w : World) (bN : NdC w B o #[.int .i64 id, .bool up, .int .i64 ro, .int .i64 ep, .slice A n c, .int .i64 su, .int .i64 ma, .int .i64 ot, .int .i64 co]) (h : LgAt w A V) (hn : V.length = n) (hm : n ≤ 2097152) (hid : 0 ≤ id ∧ id ≤ 1) (hro : 0 ≤ ro ∧ ro ≤ 1) (hep : 0 ≤ ep ∧ ep ≤ 1000) (hlg : lg2 n (lgF ep 0 (V.map EkV.r)) = 0) (hsu : 0 ≤ su ∧ su ≤ n) (hma : 0 ≤ ma ∧ ma ≤ n) (hot : 0 ≤ ot ∧ ot ≤ n) (hco : co < 0 ∨ su < co) :
    Calls Tryz.prog 69 #[.pointer (some ⟨B, o, none⟩)] w fun e w' => e = .returned (.int .i64 3) ∧ New w w' := by
  have cN := bN.cells
  go_enter Tryz.func69, Tryz.ntmps69
  go_wp2_with fail
  refine (in_yes id 0 1 _ hid).mono ?_
  rintro e w1 ⟨rfl, rfl⟩
  go_wp2_with fail
  refine (in_yes ro 0 1 _ hro).mono ?_
  rintro e w1 ⟨rfl, rfl⟩
  go_wp2_with fail
  refine (in_yes ep 0 1000 _ hep).mono ?_
  rintro e w1 ⟨rfl, rfl⟩
  go_wp2_with fail
  refine (specLFv 0 B id up ro ep su ma ot co A n c V _ bN h hn hm hlg).mono ?_
  rintro e w2 ⟨rfl, hw2⟩
  have b2 := bN.new hw2
  have c2 := b2.cells
  clear cN
  go_wp2_with fail
  have CN := ndc_regrown b2
  refine wp_region_quiet_below (by kernel_rfl) (by kernel_rfl) ?_
  repeat (go_big_quiet_step ((first | (go_at_call_of 70 (n : Int); (first | (go_at_call_of 70 su; exact calls_regrown_same (in_yes su 0 n _ hsu)) | (go_at_call_of 70 ma; exact calls_regrown_same (in_yes ma 0 n _ hma)) | (go_at_call_of 70 ot; exact calls_regrown_same (in_yes ot 0 n _ hot)))) | exact calls_regrown_same (in_no co 0 su _ hco))))
  refine wpQuiet_nil ?_
  rintro w3 hn3
  replace hn3 := new_of_regrown hn3
  have b3 := b2.new hn3
  have c3 := b3.cells
  have hw3 := hw2.trans hn3
  clear CN c2
  go_wp2
  go_ret
  exact ⟨rfl, hw3⟩

set_option maxHeartbeats 1600000 in
theorem a1 (B : Nat) (id : Int) (ep su ma ot co : Int) (A : Option Addr) (n c : Nat) (V : List EkV) (w : World) (bN : NdC w B o #[.int .i64 id, .bool false, .int .i64 1, .int .i64 ep, .slice A n c, .int .i64 su, .int .i64 ma, .int .i64 ot, .int .i64 co]) (h : LgAt w A V) (hn : V.length = n) (hm : n ≤ 2097152) (hid : 0 ≤ id ∧ id ≤ 1) (hro : 0 ≤ (1 : Int) ∧ (1 : Int) ≤ 1) (hep : 0 ≤ ep ∧ ep ≤ 1000) (hlg : lg2 n (lgF ep 0 (V.map EkV.r)) = 0) (hsu : 0 ≤ su ∧ su ≤ n) (hma : 0 ≤ ma ∧ ma ≤ n) (hot : 0 ≤ ot ∧ ot ≤ n) (hco : 0 ≤ co ∧ co ≤ su) :
    Calls Tryz.prog 69 #[.pointer (some ⟨B, o, none⟩)] w fun e w' => e = .returned (.int .i64 1) ∧ New w w' := by
  have cN := bN.cells
  go_enter Tryz.func69, Tryz.ntmps69
  go_wp2_with fail
  refine (in_yes id 0 1 _ hid).mono ?_
  rintro e w1 ⟨rfl, rfl⟩
  go_wp2_with fail
  refine (in_yes (1 : Int) 0 1 _ hro).mono ?_
  rintro e w1 ⟨rfl, rfl⟩
  go_wp2_with fail
  refine (in_yes ep 0 1000 _ hep).mono ?_
  rintro e w1 ⟨rfl, rfl⟩
  go_wp2_with fail
  refine (specLFv 0 B id false 1 ep su ma ot co A n c V _ bN h hn hm hlg).mono ?_
  rintro e w2 ⟨rfl, hw2⟩
  have b2 := bN.new hw2
  have c2 := b2.cells
  clear cN
  go_wp2_with fail
  have CN := ndc_regrown b2
  refine wp_region_quiet_below (by kernel_rfl) (by kernel_rfl) ?_
  repeat (go_big_quiet_step ((first | (go_at_call_of 70 (n : Int); (first | (go_at_call_of 70 su; exact calls_regrown_same (in_yes su 0 n _ hsu)) | (go_at_call_of 70 ma; exact calls_regrown_same (in_yes ma 0 n _ hma)) | (go_at_call_of 70 ot; exact calls_regrown_same (in_yes ot 0 n _ hot)))) | exact calls_regrown_same (in_yes co 0 su _ hco))))
  refine wpQuiet_nil ?_
  rintro w3 hn3
  replace hn3 := new_of_regrown hn3
  have b3 := b2.new hn3
  have c3 := b3.cells
  have hw3 := hw2.trans hn3
  clear CN c2
  go_wp2
  go_ret
  exact ⟨rfl, hw3⟩

set_option maxHeartbeats 1600000 in
theorem a2 (B : Nat) (id : Int) (su ma ot co : Int) (A : Option Addr) (n c : Nat) (V : List EkV) (w : World) (bN : NdC w B o #[.int .i64 id, .bool true, .int .i64 1, .int .i64 0, .slice A n c, .int .i64 su, .int .i64 ma, .int .i64 ot, .int .i64 co]) (h : LgAt w A V) (hn : V.length = n) (hm : n ≤ 2097152) (hid : 0 ≤ id ∧ id ≤ 1) (hro : 0 ≤ (1 : Int) ∧ (1 : Int) ≤ 1) (hep : 0 ≤ (0 : Int) ∧ (0 : Int) ≤ 1000) (hlg : lg2 n (lgF (0 : Int) 0 (V.map EkV.r)) = 0) (hsu : 0 ≤ su ∧ su ≤ n) (hma : 0 ≤ ma ∧ ma ≤ n) (hot : 0 ≤ ot ∧ ot ≤ n) (hco : 0 ≤ co ∧ co ≤ su) :
    Calls Tryz.prog 69 #[.pointer (some ⟨B, o, none⟩)] w fun e w' => e = .returned (.int .i64 1) ∧ New w w' := by
  have cN := bN.cells
  go_enter Tryz.func69, Tryz.ntmps69
  go_wp2_with fail
  refine (in_yes id 0 1 _ hid).mono ?_
  rintro e w1 ⟨rfl, rfl⟩
  go_wp2_with fail
  refine (in_yes (1 : Int) 0 1 _ hro).mono ?_
  rintro e w1 ⟨rfl, rfl⟩
  go_wp2_with fail
  refine (in_yes (0 : Int) 0 1000 _ hep).mono ?_
  rintro e w1 ⟨rfl, rfl⟩
  go_wp2_with fail
  refine (specLFv 0 B id true 1 0 su ma ot co A n c V _ bN h hn hm hlg).mono ?_
  rintro e w2 ⟨rfl, hw2⟩
  have b2 := bN.new hw2
  have c2 := b2.cells
  clear cN
  go_wp2_with fail
  have CN := ndc_regrown b2
  refine wp_region_quiet_below (by kernel_rfl) (by kernel_rfl) ?_
  repeat (go_big_quiet_step ((first | (go_at_call_of 70 (n : Int); (first | (go_at_call_of 70 su; exact calls_regrown_same (in_yes su 0 n _ hsu)) | (go_at_call_of 70 ma; exact calls_regrown_same (in_yes ma 0 n _ hma)) | (go_at_call_of 70 ot; exact calls_regrown_same (in_yes ot 0 n _ hot)))) | exact calls_regrown_same (in_yes co 0 su _ hco))))
  refine wpQuiet_nil ?_
  rintro w3 hn3
  replace hn3 := new_of_regrown hn3
  have b3 := b2.new hn3
  have c3 := b3.cells
  have hw3 := hw2.trans hn3
  clear CN c2
  go_wp2
  go_ret
  exact ⟨rfl, hw3⟩

set_option maxHeartbeats 1600000 in
theorem a3 (B : Nat) (id : Int) (ep su ma ot co : Int) (A : Option Addr) (n c : Nat) (V : List EkV) (w : World) (bN : NdC w B o #[.int .i64 id, .bool true, .int .i64 1, .int .i64 ep, .slice A n c, .int .i64 su, .int .i64 ma, .int .i64 ot, .int .i64 co]) (h : LgAt w A V) (hn : V.length = n) (hm : n ≤ 2097152) (hid : 0 ≤ id ∧ id ≤ 1) (hro : 0 ≤ (1 : Int) ∧ (1 : Int) ≤ 1) (hep : 0 ≤ ep ∧ ep ≤ 1000) (hlg : lg2 n (lgF ep 0 (V.map EkV.r)) = 0) (hsu : 0 ≤ su ∧ su ≤ n) (hma : 0 ≤ ma ∧ ma ≤ n) (hot : 0 ≤ ot ∧ ot ≤ n) (hco : 0 ≤ co ∧ co ≤ su) (he : ¬ ep = 0) (hm1 : ¬ ma = 0) :
    Calls Tryz.prog 69 #[.pointer (some ⟨B, o, none⟩)] w fun e w' => e = .returned (.int .i64 1) ∧ New w w' := by
  have cN := bN.cells
  have gep : (ep == 0) = false := by simp [he]
  have kep : (ep != 0) = true := by simp [he]
  have gma : (ma == 0) = false := by simp [hm1]
  have kma : (ma != 0) = true := by simp [hm1]
  go_enter Tryz.func69, Tryz.ntmps69
  go_wp2_with fail
  refine (in_yes id 0 1 _ hid).mono ?_
  rintro e w1 ⟨rfl, rfl⟩
  go_wp2_with fail
  refine (in_yes (1 : Int) 0 1 _ hro).mono ?_
  rintro e w1 ⟨rfl, rfl⟩
  go_wp2_with fail
  refine (in_yes ep 0 1000 _ hep).mono ?_
  rintro e w1 ⟨rfl, rfl⟩
  go_wp2_with fail
  refine (specLFv 0 B id true 1 ep su ma ot co A n c V _ bN h hn hm hlg).mono ?_
  rintro e w2 ⟨rfl, hw2⟩
  have b2 := bN.new hw2
  have c2 := b2.cells
  clear cN
  go_wp2_with fail
  have CN := ndc_regrown b2
  refine wp_region_quiet_below (by kernel_rfl) (by kernel_rfl) ?_
  repeat (go_big_quiet_step ((first | (go_at_call_of 70 (n : Int); (first | (go_at_call_of 70 su; exact calls_regrown_same (in_yes su 0 n _ hsu)) | (go_at_call_of 70 ma; exact calls_regrown_same (in_yes ma 0 n _ hma)) | (go_at_call_of 70 ot; exact calls_regrown_same (in_yes ot 0 n _ hot)))) | exact calls_regrown_same (in_yes co 0 su _ hco))))
  refine wpQuiet_nil ?_
  rintro w3 hn3
  replace hn3 := new_of_regrown hn3
  have b3 := b2.new hn3
  have c3 := b3.cells
  have hw3 := hw2.trans hn3
  clear CN c2
  go_wp2
  go_ret
  exact ⟨rfl, hw3⟩

set_option maxHeartbeats 1600000 in
theorem a4 (B : Nat) (id : Int) (ep su ot co : Int) (A : Option Addr) (n c : Nat) (V : List EkV) (w : World) (bN : NdC w B o #[.int .i64 id, .bool true, .int .i64 1, .int .i64 ep, .slice A n c, .int .i64 su, .int .i64 0, .int .i64 ot, .int .i64 co]) (h : LgAt w A V) (hn : V.length = n) (hm : n ≤ 2097152) (hid : 0 ≤ id ∧ id ≤ 1) (hro : 0 ≤ (1 : Int) ∧ (1 : Int) ≤ 1) (hep : 0 ≤ ep ∧ ep ≤ 1000) (hlg : lg2 n (lgF ep 0 (V.map EkV.r)) = 0) (hsu : 0 ≤ su ∧ su ≤ n) (hma : 0 ≤ (0 : Int) ∧ (0 : Int) ≤ n) (hot : 0 ≤ ot ∧ ot ≤ n) (hco : 0 ≤ co ∧ co ≤ su) (he : ¬ ep = 0) :
    Calls Tryz.prog 69 #[.pointer (some ⟨B, o, none⟩)] w fun e w' => e = .returned (.int .i64 0) ∧ New w w' := by
  have cN := bN.cells
  have gep : (ep == 0) = false := by simp [he]
  have kep : (ep != 0) = true := by simp [he]
  go_enter Tryz.func69, Tryz.ntmps69
  go_wp2_with fail
  refine (in_yes id 0 1 _ hid).mono ?_
  rintro e w1 ⟨rfl, rfl⟩
  go_wp2_with fail
  refine (in_yes (1 : Int) 0 1 _ hro).mono ?_
  rintro e w1 ⟨rfl, rfl⟩
  go_wp2_with fail
  refine (in_yes ep 0 1000 _ hep).mono ?_
  rintro e w1 ⟨rfl, rfl⟩
  go_wp2_with fail
  refine (specLFv 0 B id true 1 ep su 0 ot co A n c V _ bN h hn hm hlg).mono ?_
  rintro e w2 ⟨rfl, hw2⟩
  have b2 := bN.new hw2
  have c2 := b2.cells
  clear cN
  go_wp2_with fail
  have CN := ndc_regrown b2
  refine wp_region_quiet_below (by kernel_rfl) (by kernel_rfl) ?_
  repeat (go_big_quiet_step ((first | (go_at_call_of 70 (n : Int); (first | (go_at_call_of 70 su; exact calls_regrown_same (in_yes su 0 n _ hsu)) | (go_at_call_of 70 ot; exact calls_regrown_same (in_yes ot 0 n _ hot)) | (go_at_call_of 70 (0 : Int); exact calls_regrown_same (in_yes (0 : Int) 0 n _ hma)))) | exact calls_regrown_same (in_yes co 0 su _ hco))))
  refine wpQuiet_nil ?_
  rintro w3 hn3
  replace hn3 := new_of_regrown hn3
  have b3 := b2.new hn3
  have c3 := b3.cells
  have hw3 := hw2.trans hn3
  clear CN c2
  go_wp2
  go_ret
  exact ⟨rfl, hw3⟩

set_option maxHeartbeats 1600000 in
theorem b1 (B : Nat) (id : Int) (up : Bool) (ro ep su ma ot co : Int) (A : Option Addr) (n c : Nat) (V : List EkV) (w : World) (bN : NdC w B o #[.int .i64 id, .bool up, .int .i64 ro, .int .i64 ep, .slice A n c, .int .i64 su, .int .i64 ma, .int .i64 ot, .int .i64 co]) (h : LgAt w A V) (hn : V.length = n) (hm : n ≤ 2097152) (hid : 0 ≤ id ∧ id ≤ 1) (hro : 0 ≤ ro ∧ ro ≤ 1) (hep : 0 ≤ ep ∧ ep ≤ 1000) (hlg : lg2 n (lgF ep 0 (V.map EkV.r)) = 0) (hsu : 0 ≤ su ∧ su ≤ n) (hma : 0 ≤ ma ∧ ma ≤ n) (hot : 0 ≤ ot ∧ ot ≤ n) (hco : 0 ≤ co ∧ co ≤ su) (hr : ¬ ro = 1) (ho : ¬ ot = 0) :
    Calls Tryz.prog 69 #[.pointer (some ⟨B, o, none⟩)] w fun e w' => e = .returned (.int .i64 1) ∧ New w w' := by
  have cN := bN.cells
  have gro : (ro == 1) = false := by simp [hr]
  have kro : (ro != 1) = true := by simp [hr]
  have got : (ot == 0) = false := by simp [ho]
  have kot : (ot != 0) = true := by simp [ho]
  go_enter Tryz.func69, Tryz.ntmps69
  go_wp2_with fail
  refine (in_yes id 0 1 _ hid).mono ?_
  rintro e w1 ⟨rfl, rfl⟩
  go_wp2_with fail
  refine (in_yes ro 0 1 _ hro).mono ?_
  rintro e w1 ⟨rfl, rfl⟩
  go_wp2_with fail
  refine (in_yes ep 0 1000 _ hep).mono ?_
  rintro e w1 ⟨rfl, rfl⟩
  go_wp2_with fail
  refine (specLFv 0 B id up ro ep su ma ot co A n c V _ bN h hn hm hlg).mono ?_
  rintro e w2 ⟨rfl, hw2⟩
  have b2 := bN.new hw2
  have c2 := b2.cells
  clear cN
  go_wp2_with fail
  have CN := ndc_regrown b2
  refine wp_region_quiet_below (by kernel_rfl) (by kernel_rfl) ?_
  repeat (go_big_quiet_step ((first | (go_at_call_of 70 (n : Int); (first | (go_at_call_of 70 su; exact calls_regrown_same (in_yes su 0 n _ hsu)) | (go_at_call_of 70 ma; exact calls_regrown_same (in_yes ma 0 n _ hma)) | (go_at_call_of 70 ot; exact calls_regrown_same (in_yes ot 0 n _ hot)))) | exact calls_regrown_same (in_yes co 0 su _ hco))))
  refine wpQuiet_nil ?_
  rintro w3 hn3
  replace hn3 := new_of_regrown hn3
  have b3 := b2.new hn3
  have c3 := b3.cells
  have hw3 := hw2.trans hn3
  clear CN c2
  go_wp2
  go_ret
  exact ⟨rfl, hw3⟩

set_option maxHeartbeats 1600000 in
theorem b2 (B : Nat) (id : Int) (ro ep su ma co : Int) (A : Option Addr) (n c : Nat) (V : List EkV) (w : World) (bN : NdC w B o #[.int .i64 id, .bool true, .int .i64 ro, .int .i64 ep, .slice A n c, .int .i64 su, .int .i64 ma, .int .i64 0, .int .i64 co]) (h : LgAt w A V) (hn : V.length = n) (hm : n ≤ 2097152) (hid : 0 ≤ id ∧ id ≤ 1) (hro : 0 ≤ ro ∧ ro ≤ 1) (hep : 0 ≤ ep ∧ ep ≤ 1000) (hlg : lg2 n (lgF ep 0 (V.map EkV.r)) = 0) (hsu : 0 ≤ su ∧ su ≤ n) (hma : 0 ≤ ma ∧ ma ≤ n) (hot : 0 ≤ (0 : Int) ∧ (0 : Int) ≤ n) (hco : 0 ≤ co ∧ co ≤ su) (hr : ¬ ro = 1) :
    Calls Tryz.prog 69 #[.pointer (some ⟨B, o, none⟩)] w fun e w' => e = .returned (.int .i64 0) ∧ New w w' := by
  have cN := bN.cells
  have gro : (ro == 1) = false := by simp [hr]
  have kro : (ro != 1) = true := by simp [hr]
  go_enter Tryz.func69, Tryz.ntmps69
  go_wp2_with fail
  refine (in_yes id 0 1 _ hid).mono ?_
  rintro e w1 ⟨rfl, rfl⟩
  go_wp2_with fail
  refine (in_yes ro 0 1 _ hro).mono ?_
  rintro e w1 ⟨rfl, rfl⟩
  go_wp2_with fail
  refine (in_yes ep 0 1000 _ hep).mono ?_
  rintro e w1 ⟨rfl, rfl⟩
  go_wp2_with fail
  refine (specLFv 0 B id true ro ep su ma 0 co A n c V _ bN h hn hm hlg).mono ?_
  rintro e w2 ⟨rfl, hw2⟩
  have b2 := bN.new hw2
  have c2 := b2.cells
  clear cN
  go_wp2_with fail
  have CN := ndc_regrown b2
  refine wp_region_quiet_below (by kernel_rfl) (by kernel_rfl) ?_
  repeat (go_big_quiet_step ((first | (go_at_call_of 70 (n : Int); (first | (go_at_call_of 70 su; exact calls_regrown_same (in_yes su 0 n _ hsu)) | (go_at_call_of 70 ma; exact calls_regrown_same (in_yes ma 0 n _ hma)) | (go_at_call_of 70 (0 : Int); exact calls_regrown_same (in_yes (0 : Int) 0 n _ hot)))) | exact calls_regrown_same (in_yes co 0 su _ hco))))
  refine wpQuiet_nil ?_
  rintro w3 hn3
  replace hn3 := new_of_regrown hn3
  have b3 := b2.new hn3
  have c3 := b3.cells
  have hw3 := hw2.trans hn3
  clear CN c2
  go_wp2
  go_ret
  exact ⟨rfl, hw3⟩

set_option maxHeartbeats 1600000 in
theorem b3 (B : Nat) (id : Int) (ro ep su ma co : Int) (A : Option Addr) (n c : Nat) (V : List EkV) (w : World) (bN : NdC w B o #[.int .i64 id, .bool false, .int .i64 ro, .int .i64 ep, .slice A n c, .int .i64 su, .int .i64 ma, .int .i64 0, .int .i64 co]) (h : LgAt w A V) (hn : V.length = n) (hm : n ≤ 2097152) (hid : 0 ≤ id ∧ id ≤ 1) (hro : 0 ≤ ro ∧ ro ≤ 1) (hep : 0 ≤ ep ∧ ep ≤ 1000) (hlg : lg2 n (lgF ep 0 (V.map EkV.r)) = 0) (hsu : 0 ≤ su ∧ su ≤ n) (hma : 0 ≤ ma ∧ ma ≤ n) (hot : 0 ≤ (0 : Int) ∧ (0 : Int) ≤ n) (hco : 0 ≤ co ∧ co ≤ su) (hr : ¬ ro = 1) (hs : ¬ su = n) :
    Calls Tryz.prog 69 #[.pointer (some ⟨B, o, none⟩)] w fun e w' => e = .returned (.int .i64 1) ∧ New w w' := by
  have cN := bN.cells
  have gro : (ro == 1) = false := by simp [hr]
  have kro : (ro != 1) = true := by simp [hr]
  have gsu : (su == (n : Int)) = false := by simp [hs]
  have ksu : (su != (n : Int)) = true := by simp [hs]
  go_enter Tryz.func69, Tryz.ntmps69
  go_wp2_with fail
  refine (in_yes id 0 1 _ hid).mono ?_
  rintro e w1 ⟨rfl, rfl⟩
  go_wp2_with fail
  refine (in_yes ro 0 1 _ hro).mono ?_
  rintro e w1 ⟨rfl, rfl⟩
  go_wp2_with fail
  refine (in_yes ep 0 1000 _ hep).mono ?_
  rintro e w1 ⟨rfl, rfl⟩
  go_wp2_with fail
  refine (specLFv 0 B id false ro ep su ma 0 co A n c V _ bN h hn hm hlg).mono ?_
  rintro e w2 ⟨rfl, hw2⟩
  have b2 := bN.new hw2
  have c2 := b2.cells
  clear cN
  go_wp2_with fail
  have CN := ndc_regrown b2
  refine wp_region_quiet_below (by kernel_rfl) (by kernel_rfl) ?_
  repeat (go_big_quiet_step ((first | (go_at_call_of 70 (n : Int); (first | (go_at_call_of 70 su; exact calls_regrown_same (in_yes su 0 n _ hsu)) | (go_at_call_of 70 ma; exact calls_regrown_same (in_yes ma 0 n _ hma)) | (go_at_call_of 70 (0 : Int); exact calls_regrown_same (in_yes (0 : Int) 0 n _ hot)))) | exact calls_regrown_same (in_yes co 0 su _ hco))))
  refine wpQuiet_nil ?_
  rintro w3 hn3
  replace hn3 := new_of_regrown hn3
  have b3 := b2.new hn3
  have c3 := b3.cells
  have hw3 := hw2.trans hn3
  clear CN c2
  go_wp2
  go_ret
  exact ⟨rfl, hw3⟩

set_option maxHeartbeats 1600000 in
theorem b4 (B : Nat) (id : Int) (ro ep su ma co : Int) (A : Option Addr) (n c : Nat) (V : List EkV) (w : World) (bN : NdC w B o #[.int .i64 id, .bool false, .int .i64 ro, .int .i64 ep, .slice A n c, .int .i64 su, .int .i64 ma, .int .i64 0, .int .i64 co]) (h : LgAt w A V) (hn : V.length = n) (hm : n ≤ 2097152) (hid : 0 ≤ id ∧ id ≤ 1) (hro : 0 ≤ ro ∧ ro ≤ 1) (hep : 0 ≤ ep ∧ ep ≤ 1000) (hlg : lg2 n (lgF ep 0 (V.map EkV.r)) = 0) (hsu : 0 ≤ su ∧ su ≤ n) (hma : 0 ≤ ma ∧ ma ≤ n) (hot : 0 ≤ (0 : Int) ∧ (0 : Int) ≤ n) (hco : 0 ≤ co ∧ co ≤ su) (hr : ¬ ro = 1) (hs : su = n) (hm1 : ¬ ma = 0) :
    Calls Tryz.prog 69 #[.pointer (some ⟨B, o, none⟩)] w fun e w' => e = .returned (.int .i64 1) ∧ New w w' := by
  have cN := bN.cells
  have gro : (ro == 1) = false := by simp [hr]
  have kro : (ro != 1) = true := by simp [hr]
  have ksu : (su != (n : Int)) = false := by simp [hs]
  clear hs
  have gma : (ma == 0) = false := by simp [hm1]
  have kma : (ma != 0) = true := by simp [hm1]
  go_enter Tryz.func69, Tryz.ntmps69
  go_wp2_with fail
  refine (in_yes id 0 1 _ hid).mono ?_
  rintro e w1 ⟨rfl, rfl⟩
  go_wp2_with fail
  refine (in_yes ro 0 1 _ hro).mono ?_
  rintro e w1 ⟨rfl, rfl⟩
  go_wp2_with fail
  refine (in_yes ep 0 1000 _ hep).mono ?_
  rintro e w1 ⟨rfl, rfl⟩
  go_wp2_with fail
  refine (specLFv 0 B id false ro ep su ma 0 co A n c V _ bN h hn hm hlg).mono ?_
  rintro e w2 ⟨rfl, hw2⟩
  have b2 := bN.new hw2
  have c2 := b2.cells
  clear cN
  go_wp2_with fail
  have CN := ndc_regrown b2
  refine wp_region_quiet_below (by kernel_rfl) (by kernel_rfl) ?_
  repeat (go_big_quiet_step ((first | (go_at_call_of 70 (n : Int); (first | (go_at_call_of 70 su; exact calls_regrown_same (in_yes su 0 n _ hsu)) | (go_at_call_of 70 ma; exact calls_regrown_same (in_yes ma 0 n _ hma)) | (go_at_call_of 70 (0 : Int); exact calls_regrown_same (in_yes (0 : Int) 0 n _ hot)))) | exact calls_regrown_same (in_yes co 0 su _ hco))))
  refine wpQuiet_nil ?_
  rintro w3 hn3
  replace hn3 := new_of_regrown hn3
  have b3 := b2.new hn3
  have c3 := b3.cells
  have hw3 := hw2.trans hn3
  clear CN c2
  go_wp2
  go_ret
  exact ⟨rfl, hw3⟩

set_option maxHeartbeats 1600000 in
theorem b5 (B : Nat) (id : Int) (ro ep su co : Int) (A : Option Addr) (n c : Nat) (V : List EkV) (w : World) (bN : NdC w B o #[.int .i64 id, .bool false, .int .i64 ro, .int .i64 ep, .slice A n c, .int .i64 su, .int .i64 0, .int .i64 0, .int .i64 co]) (h : LgAt w A V) (hn : V.length = n) (hm : n ≤ 2097152) (hid : 0 ≤ id ∧ id ≤ 1) (hro : 0 ≤ ro ∧ ro ≤ 1) (hep : 0 ≤ ep ∧ ep ≤ 1000) (hlg : lg2 n (lgF ep 0 (V.map EkV.r)) = 0) (hsu : 0 ≤ su ∧ su ≤ n) (hma : 0 ≤ (0 : Int) ∧ (0 : Int) ≤ n) (hot : 0 ≤ (0 : Int) ∧ (0 : Int) ≤ n) (hco : 0 ≤ co ∧ co ≤ su) (hr : ¬ ro = 1) (hs : su = n) (hc : ¬ co = 0) :
    Calls Tryz.prog 69 #[.pointer (some ⟨B, o, none⟩)] w fun e w' => e = .returned (.int .i64 1) ∧ New w w' := by
  have cN := bN.cells
  have gro : (ro == 1) = false := by simp [hr]
  have kro : (ro != 1) = true := by simp [hr]
  have ksu : (su != (n : Int)) = false := by simp [hs]
  clear hs
  have gco : (co == 0) = false := by simp [hc]
  have kco : (co != 0) = true := by simp [hc]
  go_enter Tryz.func69, Tryz.ntmps69
  go_wp2_with fail
  refine (in_yes id 0 1 _ hid).mono ?_
  rintro e w1 ⟨rfl, rfl⟩
  go_wp2_with fail
  refine (in_yes ro 0 1 _ hro).mono ?_
  rintro e w1 ⟨rfl, rfl⟩
  go_wp2_with fail
  refine (in_yes ep 0 1000 _ hep).mono ?_
  rintro e w1 ⟨rfl, rfl⟩
  go_wp2_with fail
  refine (specLFv 0 B id false ro ep su 0 0 co A n c V _ bN h hn hm hlg).mono ?_
  rintro e w2 ⟨rfl, hw2⟩
  have b2 := bN.new hw2
  have c2 := b2.cells
  clear cN
  go_wp2_with fail
  have CN := ndc_regrown b2
  refine wp_region_quiet_below (by kernel_rfl) (by kernel_rfl) ?_
  repeat (go_big_quiet_step ((first | (go_at_call_of 70 (n : Int); (first | (go_at_call_of 70 su; exact calls_regrown_same (in_yes su 0 n _ hsu)) | (go_at_call_of 70 (0 : Int); exact calls_regrown_same (in_yes (0 : Int) 0 n _ hma)) | (go_at_call_of 70 (0 : Int); exact calls_regrown_same (in_yes (0 : Int) 0 n _ hot)))) | exact calls_regrown_same (in_yes co 0 su _ hco))))
  refine wpQuiet_nil ?_
  rintro w3 hn3
  replace hn3 := new_of_regrown hn3
  have b3 := b2.new hn3
  have c3 := b3.cells
  have hw3 := hw2.trans hn3
  clear CN c2
  go_wp2
  go_ret
  exact ⟨rfl, hw3⟩

set_option maxHeartbeats 1600000 in
theorem b6 (B : Nat) (id : Int) (ro ep su : Int) (A : Option Addr) (n c : Nat) (V : List EkV) (w : World) (bN : NdC w B o #[.int .i64 id, .bool false, .int .i64 ro, .int .i64 ep, .slice A n c, .int .i64 su, .int .i64 0, .int .i64 0, .int .i64 0]) (h : LgAt w A V) (hn : V.length = n) (hm : n ≤ 2097152) (hid : 0 ≤ id ∧ id ≤ 1) (hro : 0 ≤ ro ∧ ro ≤ 1) (hep : 0 ≤ ep ∧ ep ≤ 1000) (hlg : lg2 n (lgF ep 0 (V.map EkV.r)) = 0) (hsu : 0 ≤ su ∧ su ≤ n) (hma : 0 ≤ (0 : Int) ∧ (0 : Int) ≤ n) (hot : 0 ≤ (0 : Int) ∧ (0 : Int) ≤ n) (hco : 0 ≤ (0 : Int) ∧ (0 : Int) ≤ su) (hr : ¬ ro = 1) (hs : su = n) :
    Calls Tryz.prog 69 #[.pointer (some ⟨B, o, none⟩)] w fun e w' => e = .returned (.int .i64 0) ∧ New w w' := by
  have cN := bN.cells
  have gro : (ro == 1) = false := by simp [hr]
  have kro : (ro != 1) = true := by simp [hr]
  have ksu : (su != (n : Int)) = false := by simp [hs]
  clear hs
  go_enter Tryz.func69, Tryz.ntmps69
  go_wp2_with fail
  refine (in_yes id 0 1 _ hid).mono ?_
  rintro e w1 ⟨rfl, rfl⟩
  go_wp2_with fail
  refine (in_yes ro 0 1 _ hro).mono ?_
  rintro e w1 ⟨rfl, rfl⟩
  go_wp2_with fail
  refine (in_yes ep 0 1000 _ hep).mono ?_
  rintro e w1 ⟨rfl, rfl⟩
  go_wp2_with fail
  refine (specLFv 0 B id false ro ep su 0 0 0 A n c V _ bN h hn hm hlg).mono ?_
  rintro e w2 ⟨rfl, hw2⟩
  have b2 := bN.new hw2
  have c2 := b2.cells
  clear cN
  go_wp2_with fail
  have CN := ndc_regrown b2
  refine wp_region_quiet_below (by kernel_rfl) (by kernel_rfl) ?_
  repeat (go_big_quiet_step ((first | (go_at_call_of 70 (n : Int); (first | (go_at_call_of 70 su; exact calls_regrown_same (in_yes su 0 n _ hsu)) | (go_at_call_of 70 (0 : Int); exact calls_regrown_same (in_yes (0 : Int) 0 n _ hma)) | (go_at_call_of 70 (0 : Int); exact calls_regrown_same (in_yes (0 : Int) 0 n _ hot)))) | exact calls_regrown_same (in_yes (0 : Int) 0 su _ hco))))
  refine wpQuiet_nil ?_
  rintro w3 hn3
  replace hn3 := new_of_regrown hn3
  have b3 := b2.new hn3
  have c3 := b3.cells
  have hw3 := hw2.trans hn3
  clear CN c2
  go_wp2
  go_ret
  exact ⟨rfl, hw3⟩

theorem specNFx (B : Nat) (id : Int) (up : Bool) (ro ep su ma ot co : Int) (A : Option Addr) (n c : Nat) (V : List EkV) (w : World) (bN : NdC w B o #[.int .i64 id, .bool up, .int .i64 ro, .int .i64 ep, .slice A n c, .int .i64 su, .int .i64 ma, .int .i64 ot, .int .i64 co]) (h : LgAt w A V) (hn : V.length = n) (hm : n ≤ 2097152) :
    Calls Tryz.prog 69 #[.pointer (some ⟨B, o, none⟩)] w fun e w' => e = .returned (.int .i64 (nF id up ro ep su ma ot co n (V.map EkV.r))) ∧ New w w' := by
  unfold nF
  by_cases hid' : id = 0 ∨ id = 1
  case neg => rw [if_pos (fun k => hid' k.1)]; exact sg1 B id up ro ep su ma ot co A n c V w bN h hn hm (by omega)
  have hid : 0 ≤ id ∧ id ≤ 1 := by omega
  by_cases hro' : ro = 0 ∨ ro = 1
  case neg => rw [if_pos (fun k => hro' k.2.1)]; exact sg2 B id up ro ep su ma ot co A n c V w bN h hn hm hid (by omega)
  have hro : 0 ≤ ro ∧ ro ≤ 1 := by omega
  by_cases he0 : 0 ≤ ep
  case neg => rw [if_pos (fun k => he0 k.2.2.1)]; exact sg3 B id up ro ep su ma ot co A n c V w bN h hn hm hid hro (by omega)
  by_cases he1 : ep ≤ 1000
  case neg => rw [if_pos (fun k => he1 k.2.2.2)]; exact sg3 B id up ro ep su ma ot co A n c V w bN h hn hm hid hro (by omega)
  rw [if_neg (fun k => k ⟨hid', hro', he0, he1⟩)]
  have hep : 0 ≤ ep ∧ ep ≤ 1000 := ⟨he0, he1⟩
  by_cases hn1 : 100 < n
  case pos => rw [if_pos hn1]; exact sg5 B id up ro ep su ma ot co A n c V w bN h hn hm hid hro hep 2 (by unfold lg2; rw [if_pos hn1]) (by decide)
  rw [if_neg hn1]
  have hl2 : lg2 n (lgF ep 0 (V.map EkV.r)) = lgF ep 0 (V.map EkV.r) := by unfold lg2; rw [if_neg hn1]
  by_cases hlg' : lgF ep 0 (V.map EkV.r) = 0
  case neg => rw [if_pos hlg']; exact sg5 B id up ro ep su ma ot co A n c V w bN h hn hm hid hro hep _ hl2 hlg'
  rw [if_neg (fun k => k hlg')]
  have hlg := hl2.trans hlg'
  by_cases hsu : 0 ≤ su ∧ su ≤ n
  case neg => rw [if_pos (fun k => hsu k.1)]; exact sg7 B id up ro ep su ma ot co A n c V w bN h hn hm hid hro hep hlg (by omega)
  by_cases hma : 0 ≤ ma ∧ ma ≤ n
  case neg => rw [if_pos (fun k => hma k.2.1)]; exact sg8 B id up ro ep su ma ot co A n c V w bN h hn hm hid hro hep hlg hsu (by omega)
  by_cases hot : 0 ≤ ot ∧ ot ≤ n
  case neg => rw [if_pos (fun k => hot k.2.2.1)]; exact sg9 B id up ro ep su ma ot co A n c V w bN h hn hm hid hro hep hlg hsu hma (by omega)
  by_cases hc0 : 0 ≤ co
  case neg => rw [if_pos (fun k => hc0 k.2.2.2.1)]; exact sg10 B id up ro ep su ma ot co A n c V w bN h hn hm hid hro hep hlg hsu hma hot (by omega)
  by_cases hc1 : co ≤ su
  case neg => rw [if_pos (fun k => hc1 k.2.2.2.2)]; exact sg10 B id up ro ep su ma ot co A n c V w bN h hn hm hid hro hep hlg hsu hma hot (by omega)
  rw [if_neg (fun k => k ⟨hsu, hma, hot, hc0, hc1⟩)]
  by_cases hr : ro = 1
  · subst hr
    cases up with
    | false =>
      rw [if_pos (fun k => by have := (k.1 rfl).1; cases this)]
      exact a1 B id ep su ma ot co A n c V w bN h hn hm hid hro hep hlg hsu hma hot ⟨hc0, hc1⟩
    | true =>
      by_cases he : ep = 0
      · subst he
        rw [if_pos (fun k => by have := (k.1 rfl).2.1; omega)]
        exact a2 B id su ma ot co A n c V w bN h hn hm hid hro hep hlg hsu hma hot ⟨hc0, hc1⟩
      · by_cases hm1 : ma = 0
        · subst hm1
          rw [if_neg (fun k => k ⟨fun _ => ⟨rfl, by omega, rfl⟩, fun f => absurd rfl f⟩), if_neg (by simp)]
          exact a4 B id ep su ot co A n c V w bN h hn hm hid hro hep hlg hsu hma hot ⟨hc0, hc1⟩ he
        · rw [if_pos (fun k => hm1 (k.1 rfl).2.2)]
          exact a3 B id ep su ma ot co A n c V w bN h hn hm hid hro hep hlg hsu hma hot ⟨hc0, hc1⟩ he hm1
  · by_cases ho : ot = 0
    · subst ho
      rw [if_neg (fun k => k ⟨fun f => absurd f hr, fun _ => rfl⟩)]
      cases up with
      | true => rw [if_neg (by simp)]; exact b2 B id ro ep su ma co A n c V w bN h hn hm hid hro hep hlg hsu hma hot ⟨hc0, hc1⟩ hr
      | false =>
        by_cases hs : su = n
        · by_cases hm1 : ma = 0
          · subst hm1
            by_cases hc : co = 0
            · subst hc
              rw [if_neg (fun k => k.2 ⟨hs, rfl, rfl⟩)]
              exact b6 B id ro ep su A n c V w bN h hn hm hid hro hep hlg hsu hma hot ⟨hc0, hc1⟩ hr hs
            · rw [if_pos ⟨rfl, fun k => hc k.2.2⟩]
              exact b5 B id ro ep su co A n c V w bN h hn hm hid hro hep hlg hsu hma hot ⟨hc0, hc1⟩ hr hs hc
          · rw [if_pos ⟨rfl, fun k => hm1 k.2.1⟩]
            exact b4 B id ro ep su ma co A n c V w bN h hn hm hid hro hep hlg hsu hma hot ⟨hc0, hc1⟩ hr hs hm1
        · rw [if_pos ⟨rfl, fun k => hs k.1⟩]
          exact b3 B id ro ep su ma co A n c V w bN h hn hm hid hro hep hlg hsu hma hot ⟨hc0, hc1⟩ hr hs
    · rw [if_pos (fun k => ho (k.2 hr))]
      exact b1 B id up ro ep su ma ot co A n c V w bN h hn hm hid hro hep hlg hsu hma hot ⟨hc0, hc1⟩ hr ho

theorem specNFp (B : Nat) (id : Int) (up : Bool) (ro ep su ma ot co : Int) (A : Option Addr) (n c : Nat) (V : List EkV) (w : World) (bN : Blk w B 107 #[.int .i64 id, .bool up, .int .i64 ro, .int .i64 ep, .slice A n c, .int .i64 su, .int .i64 ma, .int .i64 ot, .int .i64 co]) (h : LgAt w A V) (hn : V.length = n) (hm : n ≤ 2097152) :
    Calls Tryz.prog 69 #[.pointer (some ⟨B, 0, none⟩)] w fun e w' => e = .returned (.int .i64 (nF id up ro ep su ma ot co n (V.map EkV.r))) ∧ New w w' := specNFx B id up ro ep su ma ot co A n c V w (NdC.ofBlk bN) h hn hm

end Go.Proofs.YtlkhmnjghdbmoaaGreatDoor
