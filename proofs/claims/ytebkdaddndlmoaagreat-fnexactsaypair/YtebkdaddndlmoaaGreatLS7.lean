/- What is proved here: what the model's judging of a node answers, for every node of at most 2097152 entries and bytes. What is proved here: what the copies of logs and of nodes answer, both sides, for logs of at most 1048576 entries and bytes. -/
import Derived.Test.YtebkdaddndlmoaaGreatLS6
namespace Go.Proofs.YtebkdaddndlmoaaGreat
open Go.RowKit Go.Sort
set_option linter.unusedVariables false
set_option linter.unusedSimpArgs false

theorem specLFv (v : Int) (B : Nat) (id : Int) (up : Bool) (ro ep su ma ot co : Int) (A : Option Addr) (n c : Nat) (V : List EkV) (w : World) (hb : Blk w B 108 #[.int .i64 id, .bool up, .int .i64 ro, .int .i64 ep, .slice A n c, .int .i64 su, .int .i64 ma, .int .i64 ot, .int .i64 co]) (h : LgAt w A V) (hn : V.length = n) (hm : n ≤ 2097152) (hv : lg2 n (lgF ep 0 (V.map EkV.r)) = v) :
    Calls Tryz.prog 170 #[.pointer (some ⟨B, 0, none⟩)] w fun e w' => e = .returned (.int .i64 v) ∧ New w w' := by
  rw [← hv]
  exact specLF B id up ro ep su ma ot co A n c V w hb h hn hm

set_option maxHeartbeats 1600000 in
theorem a1 (B : Nat) (id : Int) (ep su ma ot co : Int) (A : Option Addr) (n c : Nat) (V : List EkV) (w : World) (bN : Blk w B 108 #[.int .i64 id, .bool false, .int .i64 1, .int .i64 ep, .slice A n c, .int .i64 su, .int .i64 ma, .int .i64 ot, .int .i64 co]) (h : LgAt w A V) (hn : V.length = n) (hm : n ≤ 2097152) (hid : 0 ≤ id ∧ id ≤ 1) (hro : 0 ≤ (1 : Int) ∧ (1 : Int) ≤ 1) (hep : 0 ≤ ep ∧ ep ≤ 1000) (hlg : lg2 n (lgF ep 0 (V.map EkV.r)) = 0) (hsu : 0 ≤ su ∧ su ≤ n) (hma : 0 ≤ ma ∧ ma ≤ n) (hot : 0 ≤ ot ∧ ot ≤ n) (hco : 0 ≤ co ∧ co ≤ su) :
    Calls Tryz.prog 136 #[.pointer (some ⟨B, 0, none⟩)] w fun e w' => e = .returned (.int .i64 1) ∧ New w w' := by
  have cN := bN.cells
  go_enter Tryz.func136, Tryz.ntmps136
  go_wp2_with fail
  refine (in_yes id 0 1 _ hid).mono ?_
  rintro e w1 ⟨rfl, rfl⟩
  go_wp2_with fail
  refine (in_yes (1 : Int) 0 1 _ hro).mono ?_
  rintro e w1 ⟨rfl, rfl⟩
  go_wp2_with fail
  refine (in_yes ep 0 1000 _ hep).mono ?_
  rintro e w1 ⟨rfl, rfl⟩
  go_wp2_with fail
  refine (specLFv 0 B id false 1 ep su ma ot co A n c V _ bN h hn hm hlg).mono ?_
  rintro e w2 ⟨rfl, hw2⟩
  have b2 := bN.new hw2
  have c2 := b2.cells
  clear cN
  go_wp2_with fail
  have CN := blk_regrown b2
  refine wp_region_quiet_below (by kernel_rfl) (by kernel_rfl) ?_
  repeat (go_big_quiet_step ((first | (go_at_call_of 121 (n : Int); (first | (go_at_call_of 121 su; exact calls_regrown_same (in_yes su 0 n _ hsu)) | (go_at_call_of 121 ma; exact calls_regrown_same (in_yes ma 0 n _ hma)) | (go_at_call_of 121 ot; exact calls_regrown_same (in_yes ot 0 n _ hot)))) | exact calls_regrown_same (in_yes co 0 su _ hco))))
  refine wpQuiet_nil ?_
  rintro w3 hn3
  replace hn3 := new_of_regrown hn3
  have b3 := b2.new hn3
  have c3 := b3.cells
  have hw3 := hw2.trans hn3
  clear CN c2
  go_wp2
  go_ret
  exact ⟨rfl, hw3⟩

set_option maxHeartbeats 1600000 in
theorem a2 (B : Nat) (id : Int) (su ma ot co : Int) (A : Option Addr) (n c : Nat) (V : List EkV) (w : World) (bN : Blk w B 108 #[.int .i64 id, .bool true, .int .i64 1, .int .i64 0, .slice A n c, .int .i64 su, .int .i64 ma, .int .i64 ot, .int .i64 co]) (h : LgAt w A V) (hn : V.length = n) (hm : n ≤ 2097152) (hid : 0 ≤ id ∧ id ≤ 1) (hro : 0 ≤ (1 : Int) ∧ (1 : Int) ≤ 1) (hep : 0 ≤ (0 : Int) ∧ (0 : Int) ≤ 1000) (hlg : lg2 n (lgF (0 : Int) 0 (V.map EkV.r)) = 0) (hsu : 0 ≤ su ∧ su ≤ n) (hma : 0 ≤ ma ∧ ma ≤ n) (hot : 0 ≤ ot ∧ ot ≤ n) (hco : 0 ≤ co ∧ co ≤ su) :
    Calls Tryz.prog 136 #[.pointer (some ⟨B, 0, none⟩)] w fun e w' => e = .returned (.int .i64 1) ∧ New w w' := by
  have cN := bN.cells
  go_enter Tryz.func136, Tryz.ntmps136
  go_wp2_with fail
  refine (in_yes id 0 1 _ hid).mono ?_
  rintro e w1 ⟨rfl, rfl⟩
  go_wp2_with fail
  refine (in_yes (1 : Int) 0 1 _ hro).mono ?_
  rintro e w1 ⟨rfl, rfl⟩
  go_wp2_with fail
  refine (in_yes (0 : Int) 0 1000 _ hep).mono ?_
  rintro e w1 ⟨rfl, rfl⟩
  go_wp2_with fail
  refine (specLFv 0 B id true 1 0 su ma ot co A n c V _ bN h hn hm hlg).mono ?_
  rintro e w2 ⟨rfl, hw2⟩
  have b2 := bN.new hw2
  have c2 := b2.cells
  clear cN
  go_wp2_with fail
  have CN := blk_regrown b2
  refine wp_region_quiet_below (by kernel_rfl) (by kernel_rfl) ?_
  repeat (go_big_quiet_step ((first | (go_at_call_of 121 (n : Int); (first | (go_at_call_of 121 su; exact calls_regrown_same (in_yes su 0 n _ hsu)) | (go_at_call_of 121 ma; exact calls_regrown_same (in_yes ma 0 n _ hma)) | (go_at_call_of 121 ot; exact calls_regrown_same (in_yes ot 0 n _ hot)))) | exact calls_regrown_same (in_yes co 0 su _ hco))))
  refine wpQuiet_nil ?_
  rintro w3 hn3
  replace hn3 := new_of_regrown hn3
  have b3 := b2.new hn3
  have c3 := b3.cells
  have hw3 := hw2.trans hn3
  clear CN c2
  go_wp2
  go_ret
  exact ⟨rfl, hw3⟩

set_option maxHeartbeats 1600000 in
theorem a3 (B : Nat) (id : Int) (ep su ma ot co : Int) (A : Option Addr) (n c : Nat) (V : List EkV) (w : World) (bN : Blk w B 108 #[.int .i64 id, .bool true, .int .i64 1, .int .i64 ep, .slice A n c, .int .i64 su, .int .i64 ma, .int .i64 ot, .int .i64 co]) (h : LgAt w A V) (hn : V.length = n) (hm : n ≤ 2097152) (hid : 0 ≤ id ∧ id ≤ 1) (hro : 0 ≤ (1 : Int) ∧ (1 : Int) ≤ 1) (hep : 0 ≤ ep ∧ ep ≤ 1000) (hlg : lg2 n (lgF ep 0 (V.map EkV.r)) = 0) (hsu : 0 ≤ su ∧ su ≤ n) (hma : 0 ≤ ma ∧ ma ≤ n) (hot : 0 ≤ ot ∧ ot ≤ n) (hco : 0 ≤ co ∧ co ≤ su) (he : ¬ ep = 0) (hm1 : ¬ ma = 0) :
    Calls Tryz.prog 136 #[.pointer (some ⟨B, 0, none⟩)] w fun e w' => e = .returned (.int .i64 1) ∧ New w w' := by
  have cN := bN.cells
  have gep : (ep == 0) = false := by simp [he]
  have kep : (ep != 0) = true := by simp [he]
  have gma : (ma == 0) = false := by simp [hm1]
  have kma : (ma != 0) = true := by simp [hm1]
  go_enter Tryz.func136, Tryz.ntmps136
  go_wp2_with fail
  refine (in_yes id 0 1 _ hid).mono ?_
  rintro e w1 ⟨rfl, rfl⟩
  go_wp2_with fail
  refine (in_yes (1 : Int) 0 1 _ hro).mono ?_
  rintro e w1 ⟨rfl, rfl⟩
  go_wp2_with fail
  refine (in_yes ep 0 1000 _ hep).mono ?_
  rintro e w1 ⟨rfl, rfl⟩
  go_wp2_with fail
  refine (specLFv 0 B id true 1 ep su ma ot co A n c V _ bN h hn hm hlg).mono ?_
  rintro e w2 ⟨rfl, hw2⟩
  have b2 := bN.new hw2
  have c2 := b2.cells
  clear cN
  go_wp2_with fail
  have CN := blk_regrown b2
  refine wp_region_quiet_below (by kernel_rfl) (by kernel_rfl) ?_
  repeat (go_big_quiet_step ((first | (go_at_call_of 121 (n : Int); (first | (go_at_call_of 121 su; exact calls_regrown_same (in_yes su 0 n _ hsu)) | (go_at_call_of 121 ma; exact calls_regrown_same (in_yes ma 0 n _ hma)) | (go_at_call_of 121 ot; exact calls_regrown_same (in_yes ot 0 n _ hot)))) | exact calls_regrown_same (in_yes co 0 su _ hco))))
  refine wpQuiet_nil ?_
  rintro w3 hn3
  replace hn3 := new_of_regrown hn3
  have b3 := b2.new hn3
  have c3 := b3.cells
  have hw3 := hw2.trans hn3
  clear CN c2
  go_wp2
  go_ret
  exact ⟨rfl, hw3⟩

set_option maxHeartbeats 1600000 in
theorem a4 (B : Nat) (id : Int) (ep su ot co : Int) (A : Option Addr) (n c : Nat) (V : List EkV) (w : World) (bN : Blk w B 108 #[.int .i64 id, .bool true, .int .i64 1, .int .i64 ep, .slice A n c, .int .i64 su, .int .i64 0, .int .i64 ot, .int .i64 co]) (h : LgAt w A V) (hn : V.length = n) (hm : n ≤ 2097152) (hid : 0 ≤ id ∧ id ≤ 1) (hro : 0 ≤ (1 : Int) ∧ (1 : Int) ≤ 1) (hep : 0 ≤ ep ∧ ep ≤ 1000) (hlg : lg2 n (lgF ep 0 (V.map EkV.r)) = 0) (hsu : 0 ≤ su ∧ su ≤ n) (hma : 0 ≤ (0 : Int) ∧ (0 : Int) ≤ n) (hot : 0 ≤ ot ∧ ot ≤ n) (hco : 0 ≤ co ∧ co ≤ su) (he : ¬ ep = 0) :
    Calls Tryz.prog 136 #[.pointer (some ⟨B, 0, none⟩)] w fun e w' => e = .returned (.int .i64 0) ∧ New w w' := by
  have cN := bN.cells
  have gep : (ep == 0) = false := by simp [he]
  have kep : (ep != 0) = true := by simp [he]
  go_enter Tryz.func136, Tryz.ntmps136
  go_wp2_with fail
  refine (in_yes id 0 1 _ hid).mono ?_
  rintro e w1 ⟨rfl, rfl⟩
  go_wp2_with fail
  refine (in_yes (1 : Int) 0 1 _ hro).mono ?_
  rintro e w1 ⟨rfl, rfl⟩
  go_wp2_with fail
  refine (in_yes ep 0 1000 _ hep).mono ?_
  rintro e w1 ⟨rfl, rfl⟩
  go_wp2_with fail
  refine (specLFv 0 B id true 1 ep su 0 ot co A n c V _ bN h hn hm hlg).mono ?_
  rintro e w2 ⟨rfl, hw2⟩
  have b2 := bN.new hw2
  have c2 := b2.cells
  clear cN
  go_wp2_with fail
  have CN := blk_regrown b2
  refine wp_region_quiet_below (by kernel_rfl) (by kernel_rfl) ?_
  repeat (go_big_quiet_step ((first | (go_at_call_of 121 (n : Int); (first | (go_at_call_of 121 su; exact calls_regrown_same (in_yes su 0 n _ hsu)) | (go_at_call_of 121 ot; exact calls_regrown_same (in_yes ot 0 n _ hot)) | (go_at_call_of 121 (0 : Int); exact calls_regrown_same (in_yes (0 : Int) 0 n _ hma)))) | exact calls_regrown_same (in_yes co 0 su _ hco))))
  refine wpQuiet_nil ?_
  rintro w3 hn3
  replace hn3 := new_of_regrown hn3
  have b3 := b2.new hn3
  have c3 := b3.cells
  have hw3 := hw2.trans hn3
  clear CN c2
  go_wp2
  go_ret
  exact ⟨rfl, hw3⟩

set_option maxHeartbeats 1600000 in
theorem b1 (B : Nat) (id : Int) (up : Bool) (ro ep su ma ot co : Int) (A : Option Addr) (n c : Nat) (V : List EkV) (w : World) (bN : Blk w B 108 #[.int .i64 id, .bool up, .int .i64 ro, .int .i64 ep, .slice A n c, .int .i64 su, .int .i64 ma, .int .i64 ot, .int .i64 co]) (h : LgAt w A V) (hn : V.length = n) (hm : n ≤ 2097152) (hid : 0 ≤ id ∧ id ≤ 1) (hro : 0 ≤ ro ∧ ro ≤ 1) (hep : 0 ≤ ep ∧ ep ≤ 1000) (hlg : lg2 n (lgF ep 0 (V.map EkV.r)) = 0) (hsu : 0 ≤ su ∧ su ≤ n) (hma : 0 ≤ ma ∧ ma ≤ n) (hot : 0 ≤ ot ∧ ot ≤ n) (hco : 0 ≤ co ∧ co ≤ su) (hr : ¬ ro = 1) (ho : ¬ ot = 0) :
    Calls Tryz.prog 136 #[.pointer (some ⟨B, 0, none⟩)] w fun e w' => e = .returned (.int .i64 1) ∧ New w w' := by
  have cN := bN.cells
  have gro : (ro == 1) = false := by simp [hr]
  have kro : (ro != 1) = true := by simp [hr]
  have got : (ot == 0) = false := by simp [ho]
  have kot : (ot != 0) = true := by simp [ho]
  go_enter Tryz.func136, Tryz.ntmps136
  go_wp2_with fail
  refine (in_yes id 0 1 _ hid).mono ?_
  rintro e w1 ⟨rfl, rfl⟩
  go_wp2_with fail
  refine (in_yes ro 0 1 _ hro).mono ?_
  rintro e w1 ⟨rfl, rfl⟩
  go_wp2_with fail
  refine (in_yes ep 0 1000 _ hep).mono ?_
  rintro e w1 ⟨rfl, rfl⟩
  go_wp2_with fail
  refine (specLFv 0 B id up ro ep su ma ot co A n c V _ bN h hn hm hlg).mono ?_
  rintro e w2 ⟨rfl, hw2⟩
  have b2 := bN.new hw2
  have c2 := b2.cells
  clear cN
  go_wp2_with fail
  have CN := blk_regrown b2
  refine wp_region_quiet_below (by kernel_rfl) (by kernel_rfl) ?_
  repeat (go_big_quiet_step ((first | (go_at_call_of 121 (n : Int); (first | (go_at_call_of 121 su; exact calls_regrown_same (in_yes su 0 n _ hsu)) | (go_at_call_of 121 ma; exact calls_regrown_same (in_yes ma 0 n _ hma)) | (go_at_call_of 121 ot; exact calls_regrown_same (in_yes ot 0 n _ hot)))) | exact calls_regrown_same (in_yes co 0 su _ hco))))
  refine wpQuiet_nil ?_
  rintro w3 hn3
  replace hn3 := new_of_regrown hn3
  have b3 := b2.new hn3
  have c3 := b3.cells
  have hw3 := hw2.trans hn3
  clear CN c2
  go_wp2
  go_ret
  exact ⟨rfl, hw3⟩

set_option maxHeartbeats 1600000 in
theorem b2 (B : Nat) (id : Int) (ro ep su ma co : Int) (A : Option Addr) (n c : Nat) (V : List EkV) (w : World) (bN : Blk w B 108 #[.int .i64 id, .bool true, .int .i64 ro, .int .i64 ep, .slice A n c, .int .i64 su, .int .i64 ma, .int .i64 0, .int .i64 co]) (h : LgAt w A V) (hn : V.length = n) (hm : n ≤ 2097152) (hid : 0 ≤ id ∧ id ≤ 1) (hro : 0 ≤ ro ∧ ro ≤ 1) (hep : 0 ≤ ep ∧ ep ≤ 1000) (hlg : lg2 n (lgF ep 0 (V.map EkV.r)) = 0) (hsu : 0 ≤ su ∧ su ≤ n) (hma : 0 ≤ ma ∧ ma ≤ n) (hot : 0 ≤ (0 : Int) ∧ (0 : Int) ≤ n) (hco : 0 ≤ co ∧ co ≤ su) (hr : ¬ ro = 1) :
    Calls Tryz.prog 136 #[.pointer (some ⟨B, 0, none⟩)] w fun e w' => e = .returned (.int .i64 0) ∧ New w w' := by
  have cN := bN.cells
  have gro : (ro == 1) = false := by simp [hr]
  have kro : (ro != 1) = true := by simp [hr]
  go_enter Tryz.func136, Tryz.ntmps136
  go_wp2_with fail
  refine (in_yes id 0 1 _ hid).mono ?_
  rintro e w1 ⟨rfl, rfl⟩
  go_wp2_with fail
  refine (in_yes ro 0 1 _ hro).mono ?_
  rintro e w1 ⟨rfl, rfl⟩
  go_wp2_with fail
  refine (in_yes ep 0 1000 _ hep).mono ?_
  rintro e w1 ⟨rfl, rfl⟩
  go_wp2_with fail
  refine (specLFv 0 B id true ro ep su ma 0 co A n c V _ bN h hn hm hlg).mono ?_
  rintro e w2 ⟨rfl, hw2⟩
  have b2 := bN.new hw2
  have c2 := b2.cells
  clear cN
  go_wp2_with fail
  have CN := blk_regrown b2
  refine wp_region_quiet_below (by kernel_rfl) (by kernel_rfl) ?_
  repeat (go_big_quiet_step ((first | (go_at_call_of 121 (n : Int); (first | (go_at_call_of 121 su; exact calls_regrown_same (in_yes su 0 n _ hsu)) | (go_at_call_of 121 ma; exact calls_regrown_same (in_yes ma 0 n _ hma)) | (go_at_call_of 121 (0 : Int); exact calls_regrown_same (in_yes (0 : Int) 0 n _ hot)))) | exact calls_regrown_same (in_yes co 0 su _ hco))))
  refine wpQuiet_nil ?_
  rintro w3 hn3
  replace hn3 := new_of_regrown hn3
  have b3 := b2.new hn3
  have c3 := b3.cells
  have hw3 := hw2.trans hn3
  clear CN c2
  go_wp2
  go_ret
  exact ⟨rfl, hw3⟩

set_option maxHeartbeats 1600000 in
theorem b3 (B : Nat) (id : Int) (ro ep su ma co : Int) (A : Option Addr) (n c : Nat) (V : List EkV) (w : World) (bN : Blk w B 108 #[.int .i64 id, .bool false, .int .i64 ro, .int .i64 ep, .slice A n c, .int .i64 su, .int .i64 ma, .int .i64 0, .int .i64 co]) (h : LgAt w A V) (hn : V.length = n) (hm : n ≤ 2097152) (hid : 0 ≤ id ∧ id ≤ 1) (hro : 0 ≤ ro ∧ ro ≤ 1) (hep : 0 ≤ ep ∧ ep ≤ 1000) (hlg : lg2 n (lgF ep 0 (V.map EkV.r)) = 0) (hsu : 0 ≤ su ∧ su ≤ n) (hma : 0 ≤ ma ∧ ma ≤ n) (hot : 0 ≤ (0 : Int) ∧ (0 : Int) ≤ n) (hco : 0 ≤ co ∧ co ≤ su) (hr : ¬ ro = 1) (hs : ¬ su = n) :
    Calls Tryz.prog 136 #[.pointer (some ⟨B, 0, none⟩)] w fun e w' => e = .returned (.int .i64 1) ∧ New w w' := by
  have cN := bN.cells
  have gro : (ro == 1) = false := by simp [hr]
  have kro : (ro != 1) = true := by simp [hr]
  have gsu : (su == (n : Int)) = false := by simp [hs]
  have ksu : (su != (n : Int)) = true := by simp [hs]
  go_enter Tryz.func136, Tryz.ntmps136
  go_wp2_with fail
  refine (in_yes id 0 1 _ hid).mono ?_
  rintro e w1 ⟨rfl, rfl⟩
  go_wp2_with fail
  refine (in_yes ro 0 1 _ hro).mono ?_
  rintro e w1 ⟨rfl, rfl⟩
  go_wp2_with fail
  refine (in_yes ep 0 1000 _ hep).mono ?_
  rintro e w1 ⟨rfl, rfl⟩
  go_wp2_with fail
  refine (specLFv 0 B id false ro ep su ma 0 co A n c V _ bN h hn hm hlg).mono ?_
  rintro e w2 ⟨rfl, hw2⟩
  have b2 := bN.new hw2
  have c2 := b2.cells
  clear cN
  go_wp2_with fail
  have CN := blk_regrown b2
  refine wp_region_quiet_below (by kernel_rfl) (by kernel_rfl) ?_
  repeat (go_big_quiet_step ((first | (go_at_call_of 121 (n : Int); (first | (go_at_call_of 121 su; exact calls_regrown_same (in_yes su 0 n _ hsu)) | (go_at_call_of 121 ma; exact calls_regrown_same (in_yes ma 0 n _ hma)) | (go_at_call_of 121 (0 : Int); exact calls_regrown_same (in_yes (0 : Int) 0 n _ hot)))) | exact calls_regrown_same (in_yes co 0 su _ hco))))
  refine wpQuiet_nil ?_
  rintro w3 hn3
  replace hn3 := new_of_regrown hn3
  have b3 := b2.new hn3
  have c3 := b3.cells
  have hw3 := hw2.trans hn3
  clear CN c2
  go_wp2
  go_ret
  exact ⟨rfl, hw3⟩

set_option maxHeartbeats 1600000 in
theorem b4 (B : Nat) (id : Int) (ro ep su ma co : Int) (A : Option Addr) (n c : Nat) (V : List EkV) (w : World) (bN : Blk w B 108 #[.int .i64 id, .bool false, .int .i64 ro, .int .i64 ep, .slice A n c, .int .i64 su, .int .i64 ma, .int .i64 0, .int .i64 co]) (h : LgAt w A V) (hn : V.length = n) (hm : n ≤ 2097152) (hid : 0 ≤ id ∧ id ≤ 1) (hro : 0 ≤ ro ∧ ro ≤ 1) (hep : 0 ≤ ep ∧ ep ≤ 1000) (hlg : lg2 n (lgF ep 0 (V.map EkV.r)) = 0) (hsu : 0 ≤ su ∧ su ≤ n) (hma : 0 ≤ ma ∧ ma ≤ n) (hot : 0 ≤ (0 : Int) ∧ (0 : Int) ≤ n) (hco : 0 ≤ co ∧ co ≤ su) (hr : ¬ ro = 1) (hs : su = n) (hm1 : ¬ ma = 0) :
    Calls Tryz.prog 136 #[.pointer (some ⟨B, 0, none⟩)] w fun e w' => e = .returned (.int .i64 1) ∧ New w w' := by
  have cN := bN.cells
  have gro : (ro == 1) = false := by simp [hr]
  have kro : (ro != 1) = true := by simp [hr]
  have ksu : (su != (n : Int)) = false := by simp [hs]
  clear hs
  have gma : (ma == 0) = false := by simp [hm1]
  have kma : (ma != 0) = true := by simp [hm1]
  go_enter Tryz.func136, Tryz.ntmps136
  go_wp2_with fail
  refine (in_yes id 0 1 _ hid).mono ?_
  rintro e w1 ⟨rfl, rfl⟩
  go_wp2_with fail
  refine (in_yes ro 0 1 _ hro).mono ?_
  rintro e w1 ⟨rfl, rfl⟩
  go_wp2_with fail
  refine (in_yes ep 0 1000 _ hep).mono ?_
  rintro e w1 ⟨rfl, rfl⟩
  go_wp2_with fail
  refine (specLFv 0 B id false ro ep su ma 0 co A n c V _ bN h hn hm hlg).mono ?_
  rintro e w2 ⟨rfl, hw2⟩
  have b2 := bN.new hw2
  have c2 := b2.cells
  clear cN
  go_wp2_with fail
  have CN := blk_regrown b2
  refine wp_region_quiet_below (by kernel_rfl) (by kernel_rfl) ?_
  repeat (go_big_quiet_step ((first | (go_at_call_of 121 (n : Int); (first | (go_at_call_of 121 su; exact calls_regrown_same (in_yes su 0 n _ hsu)) | (go_at_call_of 121 ma; exact calls_regrown_same (in_yes ma 0 n _ hma)) | (go_at_call_of 121 (0 : Int); exact calls_regrown_same (in_yes (0 : Int) 0 n _ hot)))) | exact calls_regrown_same (in_yes co 0 su _ hco))))
  refine wpQuiet_nil ?_
  rintro w3 hn3
  replace hn3 := new_of_regrown hn3
  have b3 := b2.new hn3
  have c3 := b3.cells
  have hw3 := hw2.trans hn3
  clear CN c2
  go_wp2
  go_ret
  exact ⟨rfl, hw3⟩

set_option maxHeartbeats 1600000 in
theorem b5 (B : Nat) (id : Int) (ro ep su co : Int) (A : Option Addr) (n c : Nat) (V : List EkV) (w : World) (bN : Blk w B 108 #[.int .i64 id, .bool false, .int .i64 ro, .int .i64 ep, .slice A n c, .int .i64 su, .int .i64 0, .int .i64 0, .int .i64 co]) (h : LgAt w A V) (hn : V.length = n) (hm : n ≤ 2097152) (hid : 0 ≤ id ∧ id ≤ 1) (hro : 0 ≤ ro ∧ ro ≤ 1) (hep : 0 ≤ ep ∧ ep ≤ 1000) (hlg : lg2 n (lgF ep 0 (V.map EkV.r)) = 0) (hsu : 0 ≤ su ∧ su ≤ n) (hma : 0 ≤ (0 : Int) ∧ (0 : Int) ≤ n) (hot : 0 ≤ (0 : Int) ∧ (0 : Int) ≤ n) (hco : 0 ≤ co ∧ co ≤ su) (hr : ¬ ro = 1) (hs : su = n) (hc : ¬ co = 0) :
    Calls Tryz.prog 136 #[.pointer (some ⟨B, 0, none⟩)] w fun e w' => e = .returned (.int .i64 1) ∧ New w w' := by
  have cN := bN.cells
  have gro : (ro == 1) = false := by simp [hr]
  have kro : (ro != 1) = true := by simp [hr]
  have ksu : (su != (n : Int)) = false := by simp [hs]
  clear hs
  have gco : (co == 0) = false := by simp [hc]
  have kco : (co != 0) = true := by simp [hc]
  go_enter Tryz.func136, Tryz.ntmps136
  go_wp2_with fail
  refine (in_yes id 0 1 _ hid).mono ?_
  rintro e w1 ⟨rfl, rfl⟩
  go_wp2_with fail
  refine (in_yes ro 0 1 _ hro).mono ?_
  rintro e w1 ⟨rfl, rfl⟩
  go_wp2_with fail
  refine (in_yes ep 0 1000 _ hep).mono ?_
  rintro e w1 ⟨rfl, rfl⟩
  go_wp2_with fail
  refine (specLFv 0 B id false ro ep su 0 0 co A n c V _ bN h hn hm hlg).mono ?_
  rintro e w2 ⟨rfl, hw2⟩
  have b2 := bN.new hw2
  have c2 := b2.cells
  clear cN
  go_wp2_with fail
  have CN := blk_regrown b2
  refine wp_region_quiet_below (by kernel_rfl) (by kernel_rfl) ?_
  repeat (go_big_quiet_step ((first | (go_at_call_of 121 (n : Int); (first | (go_at_call_of 121 su; exact calls_regrown_same (in_yes su 0 n _ hsu)) | (go_at_call_of 121 (0 : Int); exact calls_regrown_same (in_yes (0 : Int) 0 n _ hma)) | (go_at_call_of 121 (0 : Int); exact calls_regrown_same (in_yes (0 : Int) 0 n _ hot)))) | exact calls_regrown_same (in_yes co 0 su _ hco))))
  refine wpQuiet_nil ?_
  rintro w3 hn3
  replace hn3 := new_of_regrown hn3
  have b3 := b2.new hn3
  have c3 := b3.cells
  have hw3 := hw2.trans hn3
  clear CN c2
  go_wp2
  go_ret
  exact ⟨rfl, hw3⟩

end Go.Proofs.YtebkdaddndlmoaaGreat

namespace Go.Proofs.YtebkdaddndlmoaaGreat
open Go.RowKit Go.Sort
set_option linter.unusedVariables false
set_option linter.unusedSimpArgs false
set_option maxRecDepth 100000

theorem PaK.turnP {w w' : World} {lo hi : Nat} {V : List EkV} {S : Nat → Prop} (h : PaK w lo hi V) (t : Turn S w w') (hS : ∀ v ∈ V, ∀ k, v.pv.ownBlock = some k → ¬ S k) : PaK w' lo hi V :=
  ⟨fun v hv => (h.own v hv).turnK t (hS v hv), h.bd, h.lies, h.apart⟩
theorem rowv_neK {w : World} {lo lo' n k sz : Nat} {ty : TypeId} {u v : Value} {cs : List Value} {xs : List Int} (h : w.ownsRow lo ty sz u n cs) (hty : ¬ ty = 5) (ho : OvB w lo' v xs) (hu : u.ownBlock = some k) : v.ownBlock ≠ some k := by
  intro e
  rcases ho.2 with ⟨h', _⟩ | ⟨g1, c1, cur1, h1, _, hb1, _⟩
  · rw [h'] at e; simp [Value.ownBlock] at e
  · rw [h1] at e
    simp [Value.ownBlock] at e
    subst e
    rcases h.2 with ⟨h', _⟩ | ⟨g2, _, cur2, h2, _, hb2, _⟩
    · rw [h'] at hu; simp [Value.ownBlock] at hu
    · rw [h2] at hu
      simp [Value.ownBlock] at hu
      subst hu
      rw [hb1] at hb2
      simp only [Option.some.injEq, Obj.cells.injEq] at hb2
      exact hty hb2.2.1.symm

/-- An entry put behind a list of the call's own. -/
theorem OwL.appended {w2 w3 w4 w5 : World} {lo : Nat} {u v' : Value} {V : List EkV} {v : EkV} (h : OwL w2 lo w2.heap.size u V) (hlo : lo ≤ w2.heap.size) (n3 : New w2 w3) (ho : OvB w3 w2.heap.size v.pv v.r.xs) (hb : ∀ z ∈ v.r.xs, By z) (hm : v.r.xs.length ≤ 1048576) (n4 : New w3 w4)
    (hr : w5.ownsRow lo 135 4 v' (V ++ [v]).length (cellsK (V ++ [v]))) (hg : w4.grownBy w5 u.ownBlock) : OwL w5 lo w5.heap.size v' (V ++ [v]) := by
  have P4 := ((h.path.new n3).snoc v ho hb hm hlo n3.size (Nat.le_refl _)).new n4
  have r4 := row9_new h.row (n3.trans n4)
  obtain ⟨y, d, -, -, hrn⟩ := row9_form hr
  refine ⟨hr, fun k hk => (hrn k hk).2, (P4.turnP (turn_of_grown hg) ?_).up (Nat.le_trans n4.size hg.size)⟩
  intro q hq k hk e
  exact rowv_neK r4 (by decide) (P4.own q hq) e hk

/-- Entries without bytes have no room. -/
def NlK (V : List EkV) : Prop := ∀ v ∈ V, v.a = none → v.r.xs.length = 0 ∧ v.c = 0
theorem OwL.nl {w : World} {lo hi : Nat} {u : Value} {V : List EkV} (h : OwL w lo hi u V) : NlK V := fun v hv => (h.path.here v hv).2.1

set_option maxHeartbeats 6400000 in
theorem copyLg_any (A : Option Addr) (n c : Nat) (V : List EkV) (w : World) (h : LgAt w A V) (hN : NlK V) (hn : V.length = n) (hm : n ≤ 2097152) :
    Calls Tryz.prog 152 #[.slice A n c] w fun e w' => ∃ u V', e = .returned u ∧ V'.map EkV.r = V.map EkV.r ∧ OwL w' w.heap.size w'.heap.size u V' ∧ New w w' := by
  have HN : Hid (V.length = n) := hn
  have HNl : Hid (NlK V) := hN
  clear hn hN
  obtain ⟨i0, hi, hz0, hz1, hz2⟩ := info_parts Tryz.infoEk
  go_enter Tryz.func152, Tryz.ntmps152
  go_wp2
  go_loopw [3, 8] (fun u i wr => ∃ (k : Nat) (V' : List EkV), k ≤ n ∧ i = .int .i64 k ∧ V'.length = k ∧ V'.map EkV.r = (V.take k).map EkV.r ∧ New w wr ∧ OwL wr w.heap.size wr.heap.size u V') (fun _ i _ => n - (intOf i).toNat)
  case atStart => exact ⟨0, [], Nat.zero_le _, rfl, rfl, rfl, New.refl _, OwL.nil _ _ _⟩
  case round =>
    obtain ⟨k, V', hk, rfl, hl', hmap, hnw, how⟩ := hrel
    have HL' : Hid (V'.length = k) := hl'
    clear hl'
    by_cases hlt : k < n
    · obtain ⟨g, ep, ki, pe, x, m, d, xs, rfl, hv, hlen, hns, hmx, q0, q1, q2, q3⟩ := (h.new hnw).at k (by have := HN.out; omega)
      have hnl : Hid (x = none → m = 0 ∧ d = 0) := fun e => by have := HNl.out _ (List.mem_of_getElem? hv) e; rw [← hlen]; exact this
      have HL : Hid (xs.length = m) := hlen
      have hbd : Hid (∀ z ∈ xs, By z) := hns.lt
      have HMp : Hid (∀ u : EkV, u.r = ⟨ep, ki, pe, xs⟩ → (V' ++ [u]).map EkV.r = (V.take (k + 1)).map EkV.r) := by
        intro u hu
        obtain ⟨hk', e⟩ := List.getElem?_eq_some_iff.1 hv
        rw [List.take_succ_eq_append_getElem hk', e, List.map_append, List.map_append, hmap]
        simp [hu]
      have al := (New.refl wr).alloc (.cells #[.int .i64 ep, .int .i64 ki, .int .i64 pe, .slice x m d] 135)
      obtain ⟨y, dd, hform, -, -⟩ := row9_form how.row
      subst hform
      clear hv hlen hmap h
      go_wp2_with fail
      refine (copyE ep ki pe x m d xs _ (hns.new al) HL.out hnl.out (by omega)).mono ?_
      rintro e w1 ⟨a', c', rfl, ho1, hn1⟩
      have n1 := al.trans hn1
      have al2 := (New.refl w1).alloc (.cells #[.int .i64 ep, .int .i64 ki, .int .i64 pe, .slice a' m c'] 135)
      have bL := Blk.mk w1 w1.heap.size 135 #[.int .i64 ep, .int .i64 ki, .int .i64 pe, .slice a' m c'] rfl
      have cL := bL.cells
      have hrow := row9_new (row9_new how.row n1) al2
      have hov : OvB w1 wr.heap.size (EkV.pv ⟨⟨ep, ki, pe, xs⟩, a', c'⟩) xs := by
        unfold EkV.pv
        simp only [HL.out]
        exact ho1.low (by simp)
      have hs1 := (hnw.trans n1).size
      clear q0 q1 q2 q3 hns
      go_wp2_with (at_builtin; refine wpList_apV _ rfl (.tmp 12) (.tmp 15) rfl w.heap.size 4 48 (.agg #[.int .i64 0, .int .i64 0, .int .i64 0, .slice none 0 0]) Tryz.underlying42 hi hz0 hz1 hz2 rfl (by omega) (by omega) _ _ _ rfl hrow w1.heap.size [.int .i64 ep, .int .i64 ki, .int .i64 pe, .slice a' m c'] rfl (by simp [Value.oneCell']) rfl (by intro j u hu; rw [cL j, List.getElem?_toArray]; exact hu) (by have := HL'.out; omega) (by simp; omega) ?_)
      intro v' w5 hr5 hg5 hat5
      have hr5' : w5.ownsRow w.heap.size 135 4 v' (V' ++ [EkV.mk (Ek.mk ep ki pe xs) a' c']).length (cellsK (V' ++ [EkV.mk (Ek.mk ep ki pe xs) a' c'])) := by
        rw [cellsK_snoc, List.length_append]
        simp only [EkV.cs, HL.out]
        exact hr5
      have hap := how.appended hnw.size n1 hov hbd.out (by simp only [HL.out]; omega) al2 hr5' hg5
      have hn5 : New w w5 := ((hnw.trans n1).trans al2).grow hg5 (by intro j hj; exact (row9_form how.row).elim fun _ ⟨_, _, _, hh⟩ => (hh j hj).1)
      have HAP : Hid _ := hap
      clear hrow hr5 hr5' hg5 hat5 how hap cL bL
      go_wp2
      go_roundw
      case rel => exact ⟨k + 1, _, by omega, by go_num, by simp [HL'.out], HMp.out _ rfl, hn5, HAP.out⟩
      case measure => simp [intOf]; omega
    · go_wp2
      go_ret
      have hkn : k = n := by omega
      subst hkn
      rw [List.take_of_length_le (by have := HN.out; omega)] at hmap
      exact ⟨_, V', rfl, hmap, how, hnw⟩

end Go.Proofs.YtebkdaddndlmoaaGreat
