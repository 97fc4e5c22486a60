/- What is proved here: for every node and mail the law on HearMail returns true, and what came in reads as it did. No condition. -/
import Derived.Test.YthnigcalboobgaaHM5
import Derived.Test.YthnigcalboobgaaK12Up
import Derived.Test.YthnigcalboobgaaRwLib
import Derived.Deep.RegionHeld3
import Derived.Deep.CutRange
namespace Go.Proofs.Ythnigcalboobgaa
open Go.ChangeShapes Go.WideShapes Go.ChangeAt Go.RowKit
set_option linter.unusedVariables false
set_option linter.unusedSimpArgs false
set_option maxRecDepth 100000

theorem evF_len {k p : Int} {m : Nat} (h : evF k p m = 0) : m ≤ 60 := by
  unfold evF at h
  split at h
  · omega
  split at h
  · omega
  split at h
  · omega
  split at h
  · split at h
    · omega
    split at h <;> omega
  · split at h <;> omega
theorem mlF_len {id kd tgt me at1 pr : Int} {has : Bool} {ee ki pe : Int} {m : Nat} (h : mlF id kd tgt me at1 pr has ee ki pe m = 0) : m ≤ 60 := by
  unfold mlF at h
  split at h
  · omega
  split at h
  · omega
  split at h
  · omega
  split at h
  · unfold efF at h
    split at h
    · contradiction
    · rename_i k1
      have k2 : enF ee ki pe m = 0 := Decidable.not_not.1 k1
      unfold enF at k2
      split at k2
      · omega
      · exact evF_len k2
  · split at h
    · omega
    · rename_i k1
      omega
theorem markMl_any (kd tgt me at1 pr : Int) (has : Bool) (e1 k1 p1 : Int) (a : Option Addr) (n c : Nat) (k : Int) (zs : List Int) (w : World) (h : OwAt w a n c zs) (hm : n ≤ 4194304) (hk0 : 0 ≤ k) (hk : k ≤ 1073741824) :
    Calls Try.prog 14 #[.agg #[.int .i64 kd, .int .i64 tgt, .int .i64 me, .int .i64 at1, .int .i64 pr, .bool has, .int .i64 e1, .int .i64 k1, .int .i64 p1, .slice a n c], .int .i64 k] w fun e w' => e = .returned (.int .i64 (k + n)) ∧ OwAt w' a n c (marks k n) ∧ Turn (inA a) w w' := by
  have hw := (New.refl w).alloc (.cells #[.int .i64 kd, .int .i64 tgt, .int .i64 me, .int .i64 at1, .int .i64 pr, .bool has, .int .i64 e1, .int .i64 k1, .int .i64 p1, .slice a n c] 46)
  go_enter Try.func14, Try.ntmps14
  go_wp2_with fail
  refine (markEn_any e1 k1 p1 a n c k zs _ (h.new hw) hm hk0 hk).mono ?_
  rintro e w1 ⟨rfl, ho1, ht1⟩
  go_wp2
  go_ret
  exact ⟨rfl, ho1, Turn.trans hw.turn ht1 (fun _ _ h => h)⟩

/-- What an entry put in leaves is bounded. -/
theorem haF_tot (id : Int) (up : Bool) (ro ep su ma ot co : Int) (V : List EkV) (o : Nat) (pr : Int) (has : Bool) (x : Ek) (hV : totK V ≤ 1048576) (hx : x.xs.length ≤ 1048500) : ∀ U : List EkV, U.map EkV.r = (haF id up ro ep su ma ot co (V.map EkV.r) o pr has x).L → totK U ≤ 2097152 := by
  intro U hU
  have h0 : ∀ U : List EkV, U.map EkV.r = [] → totK U ≤ 2097152 := by intro U hU; obtain rfl : U = [] := (by simpa using hU); simp [totK]
  have h1 : ∀ U : List EkV, U.map EkV.r = V.map EkV.r → totK U ≤ 2097152 := by intro U hU; rw [totK_map U V hU]; omega
  have h2 : ∀ U : List EkV, U.map EkV.r = (V.map EkV.r).take o ++ [x] → totK U ≤ 2097152 := by
    intro U hU
    have k1 := totK_map U (V.take o ++ [EkV.mk x none 0]) (by rw [hU, List.map_append, List.map_take]; rfl)
    rw [k1, totK_snoc]
    have k2 := totK_take V o
    simp only
    omega
  unfold haF at hU
  repeat' split at hU
  all_goals first | exact h0 U hU | exact h1 U hU | exact h2 U hU
theorem hmF_tot (id : Int) (up : Bool) (ro ep su ma ot co : Int) (V : List EkV) (kd : Int) (o : Nat) (pr : Int) (has : Bool) (x : Ek) (hV : totK V ≤ 1048576) (hx : x.xs.length ≤ 1048500) : ∀ U : List EkV, U.map EkV.r = (hmF id up ro ep su ma ot co (V.map EkV.r) kd o pr has x).L → totK U ≤ 2097152 := by
  intro U hU
  unfold hmF at hU
  split at hU
  · exact haF_tot id up ro ep su ma ot co V o pr has x hV hx U hU
  · rw [totK_map U V hU]; omega

theorem NrRd.up {w : World} {b b' : Nat} {A S : Option Addr} {U : List EkV} {Ms : List MlV} (h : NrRd w b A U S Ms) (hb : b ≤ b') : NrRd w b' A U S Ms :=
  ⟨h.lg, h.sd, fun x hx => Nat.lt_of_lt_of_le (h.l1 x hx) hb, fun u hu x hx => Nat.lt_of_lt_of_le (h.l2 u hu x hx) hb, fun x hx => Nat.lt_of_lt_of_le (h.l3 x hx) hb, fun v hv x hx => Nat.lt_of_lt_of_le (h.l4 v hv x hx) hb⟩

set_option maxHeartbeats 1600000 in
theorem ahm_big (id : Int) (up : Bool) (ro ep su ma ot co : Int) (A : Option Addr) (n c : Nat) (V : List EkV) (kd tgt me at1 pr : Int) (has : Bool) (e1 k1 p1 : Int) (x : Option Addr) (m d : Nat) (xs : List Int) (w : World) (h : EkCame w A V) (hn : V.length = n) (hm : n ≤ maxLen) (hml : m ≤ maxLen) (hbig : 1048576 < totK V ∨ 1048576 < m) :
    Calls Try.prog 3 #[.agg #[.int .i64 id, .bool up, .int .i64 ro, .int .i64 ep, .slice A n c, .int .i64 su, .int .i64 ma, .int .i64 ot, .int .i64 co], .agg #[.int .i64 kd, .int .i64 tgt, .int .i64 me, .int .i64 at1, .int .i64 pr, .bool has, .int .i64 e1, .int .i64 k1, .int .i64 p1, .slice x m d]] w fun e w' => e = .returned (.bool true) ∧ New w w' := by
  have hw := ((New.refl w).alloc (.cells #[.int .i64 id, .bool up, .int .i64 ro, .int .i64 ep, .slice A n c, .int .i64 su, .int .i64 ma, .int .i64 ot, .int .i64 co] 24)).alloc (.cells #[.int .i64 kd, .int .i64 tgt, .int .i64 me, .int .i64 at1, .int .i64 pr, .bool has, .int .i64 e1, .int .i64 k1, .int .i64 p1, .slice x m d] 31)
  have bB := Blk.mk (w.alloc (.cells #[.int .i64 id, .bool up, .int .i64 ro, .int .i64 ep, .slice A n c, .int .i64 su, .int .i64 ma, .int .i64 ot, .int .i64 co] 24)) (w.heap.size + 1) 31 #[.int .i64 kd, .int .i64 tgt, .int .i64 me, .int .i64 at1, .int .i64 pr, .bool has, .int .i64 e1, .int .i64 k1, .int .i64 p1, .slice x m d] (by simp)
  go_enter Try.func3, Try.ntmps3
  go_wp2_with fail
  refine (szNd_any id up ro ep su ma ot co A n c V _ (h.new hw) hn hm).mono ?_
  rintro e w1 ⟨⟨z, rfl, hz⟩, hn1⟩
  by_cases hz0 : z < 0
  · clear hz
    go_wp2
    go_ret
    exact ⟨rfl, hw.trans hn1⟩
  have hmz : 0 ≤ z ∧ z ≤ 1048576 ∧ z < (m : Int) := by omega
  clear hz hbig
  have cB := (bB.new hn1).cells
  go_wp2_with fail
  refine (szMl_bigZ kd tgt me at1 pr has e1 k1 p1 x m d z _ hmz.1 hmz.2.1 hml hmz.2.2).mono ?_
  rintro e w2 ⟨rfl, hn2⟩
  go_wp2
  go_ret
  exact ⟨rfl, (hw.trans hn1).trans hn2⟩

set_option maxHeartbeats 12800000 in
theorem ahm_walk (id : Int) (up : Bool) (ro ep su ma ot co : Int) (A : Option Addr) (n c : Nat) (V : List EkV) (kd tgt me at1 pr : Int) (has : Bool) (e1 k1 p1 : Int) (x : Option Addr) (m d : Nat) (xs : List Int) (z1 id1 : Int) (up1 : Bool) (ro1 ep1 su1 ma1 ot1 co1 : Int) (L : List Ek) (M : List Ml) (w : World) (h : EkCame w A V) (hn : V.length = n) (hT : totK V ≤ 1048576) (hx : BsAt w x xs) (hX : xs.length = m) (hm1 : m ≤ 1048576)
    (hI : ∀ g V' u W, New w W → V'.map EkV.r = V.map EkV.r → LgAt W (some ⟨g, 0, none⟩) V' → NlK V' → BsAt W (some ⟨u, 0, none⟩) xs → Calls Try.prog 9 #[.agg #[.int .i64 id, .bool up, .int .i64 ro, .int .i64 ep, .slice (some ⟨g, 0, none⟩) n n, .int .i64 su, .int .i64 ma, .int .i64 ot, .int .i64 co], .agg #[.int .i64 kd, .int .i64 tgt, .int .i64 me, .int .i64 at1, .int .i64 pr, .bool has, .int .i64 e1, .int .i64 k1, .int .i64 p1, .slice (some ⟨u, 0, none⟩) m m]] W (NrAns W z1 id1 up1 ro1 ep1 su1 ma1 ot1 co1 L M))
    (hS : ∀ g V' u W, New w W → V'.map EkV.r = V.map EkV.r → LgAt W (some ⟨g, 0, none⟩) V' → NlK V' → BsAt W (some ⟨u, 0, none⟩) xs → Calls Try.prog 6 #[.agg #[.int .i64 id, .bool up, .int .i64 ro, .int .i64 ep, .slice (some ⟨g, 0, none⟩) n n, .int .i64 su, .int .i64 ma, .int .i64 ot, .int .i64 co], .agg #[.int .i64 kd, .int .i64 tgt, .int .i64 me, .int .i64 at1, .int .i64 pr, .bool has, .int .i64 e1, .int .i64 k1, .int .i64 p1, .slice (some ⟨u, 0, none⟩) m m]] W (NrAns W z1 id1 up1 ro1 ep1 su1 ma1 ot1 co1 L M))
    (hLT : ∀ U, U.map EkV.r = L → totK U ≤ 2097152) :
    Calls Try.prog 3 #[.agg #[.int .i64 id, .bool up, .int .i64 ro, .int .i64 ep, .slice A n c, .int .i64 su, .int .i64 ma, .int .i64 ot, .int .i64 co], .agg #[.int .i64 kd, .int .i64 tgt, .int .i64 me, .int .i64 at1, .int .i64 pr, .bool has, .int .i64 e1, .int .i64 k1, .int .i64 p1, .slice x m d]] w fun e w' => e = .returned (.bool true) ∧ New w w' := by
  have hw := ((New.refl w).alloc (.cells #[.int .i64 id, .bool up, .int .i64 ro, .int .i64 ep, .slice A n c, .int .i64 su, .int .i64 ma, .int .i64 ot, .int .i64 co] 24)).alloc (.cells #[.int .i64 kd, .int .i64 tgt, .int .i64 me, .int .i64 at1, .int .i64 pr, .bool has, .int .i64 e1, .int .i64 k1, .int .i64 p1, .slice x m d] 31)
  have bA := (Blk.mk w w.heap.size 24 #[.int .i64 id, .bool up, .int .i64 ro, .int .i64 ep, .slice A n c, .int .i64 su, .int .i64 ma, .int .i64 ot, .int .i64 co] rfl).alloc (.cells #[.int .i64 kd, .int .i64 tgt, .int .i64 me, .int .i64 at1, .int .i64 pr, .bool has, .int .i64 e1, .int .i64 k1, .int .i64 p1, .slice x m d] 31)
  have bB := Blk.mk (w.alloc (.cells #[.int .i64 id, .bool up, .int .i64 ro, .int .i64 ep, .slice A n c, .int .i64 su, .int .i64 ma, .int .i64 ot, .int .i64 co] 24)) (w.heap.size + 1) 31 #[.int .i64 kd, .int .i64 tgt, .int .i64 me, .int .i64 at1, .int .i64 pr, .bool has, .int .i64 e1, .int .i64 k1, .int .i64 p1, .slice x m d] (by simp)
  have hzb := hx.lt
  have hl := totK_len V
  have HNm : Hid (n ≤ 2097152) := by unfold Hid; omega
  have HM1 : Hid (m ≤ 1048576) := hm1
  have hmx : n ≤ maxLen := by unfold maxLen; omega
  clear hl hm1
  go_enter Try.func3, Try.ntmps3
  go_wp2_with fail
  refine (szNd_any id up ro ep su ma ot co A n c V _ (h.new hw) hn hmx).mono ?_
  rintro e w1 ⟨⟨z, rfl, hz⟩, hn1⟩
  have hw1 := hw.trans hn1
  have bA1 := bA.new hn1
  have bB1 := bB.new hn1
  clear hw bA bB hn1
  by_cases hz0 : z < 0
  · go_wp2
    go_ret
    exact ⟨rfl, hw1⟩
  have hz3 : 0 ≤ z ∧ z ≤ 1048576 := by omega
  clear hz
  have cB := bB1.cells
  by_cases hmz : (m : Int) ≤ z
  case neg =>
    go_wp2_with fail
    refine (szMl_bigZ kd tgt me at1 pr has e1 k1 p1 x m d z _ hz3.1 hz3.2 (by have := HM1.out; unfold maxLen; omega) (by omega)).mono ?_
    rintro e w2 ⟨rfl, hn2⟩
    go_wp2
    go_ret
    exact ⟨rfl, hw1.trans hn2⟩
  go_wp2_with fail
  refine (szMl_okZ kd tgt me at1 pr has e1 k1 p1 x m d z _ hz3.1 hz3.2 hmz).mono ?_
  rintro e w2 ⟨rfl, hn2⟩
  have hw2 := hw1.trans hn2
  have bA2 := bA1.new hn2
  have bB2 := bB1.new hn2
  have hzm : ¬ z - (m : Int) < 0 := by omega
  clear hw1 bA1 bB1 hn2 cB
  go_upto_region 8 with fail
  go_cut [6] from 24 to 28 (fun v wx => ∃ B A3 c3 U3 S3 s3 M3, v = .pointer (some ⟨B, 0, none⟩) ∧ Blk wx B 39 #[.int .i64 z1, .int .i64 id1, .bool up1, .int .i64 ro1, .int .i64 ep1, .slice A3 L.length c3, .int .i64 su1, .int .i64 ma1, .int .i64 ot1, .int .i64 co1, .slice S3 M.length s3] ∧ U3.map EkV.r = L ∧ M3.map MlV.m = M ∧ NrRd wx wx.heap.size A3 U3 S3 M3 ∧ U3.length = L.length ∧ M3.length = M.length ∧ New w2 wx ∧ w2.heap.size ≤ B)
  case first =>
    refine hw_start (n := 7) (S := fun X => New w2 X) rfl (by kernel_rfl) ((New.refl _).drew) (fun hH => ?_)
    refine' hw_take 0 (some 24) (.agg #[.int .i64 id, .bool up, .int .i64 ro, .int .i64 ep, .slice A n c, .int .i64 su, .int .i64 ma, .int .i64 ot, .int .i64 co]) rfl rfl (by kernel_rfl) (by kernel_rfl) (by kernel_rfl) (fun _ _ _ h => h) (by rfl) hH ?hyA8 ?restA8
    case hyA8 =>
      intro X hX
      exact run_load_blk 24 (.tmp 2) rfl w.heap.size rfl #[.int .i64 id, .bool up, .int .i64 ro, .int .i64 ep, .slice A n c, .int .i64 su, .int .i64 ma, .int .i64 ot, .int .i64 co] _ (bA2.new hX) Try.underlying24 rfl (by kernel_rfl)
    simp only [Act.put, List.setIfInBounds_toArray, List.set_cons_zero, List.set_cons_succ]
    refine' hw_take 2 (some 26) (.agg #[.int .i64 kd, .int .i64 tgt, .int .i64 me, .int .i64 at1, .int .i64 pr, .bool has, .int .i64 e1, .int .i64 k1, .int .i64 p1, .slice x m d]) rfl rfl (by kernel_rfl) (by kernel_rfl) (by kernel_rfl) (fun _ _ _ h => h) (by rfl) hH ?hyB8 ?restB8
    case hyB8 =>
      intro X hX
      exact run_load_blk 31 (.tmp 3) rfl (w.heap.size + 1) rfl #[.int .i64 kd, .int .i64 tgt, .int .i64 me, .int .i64 at1, .int .i64 pr, .bool has, .int .i64 e1, .int .i64 k1, .int .i64 p1, .slice x m d] _ (bB2.new hX) Try.underlying31 rfl (by kernel_rfl)
    simp only [Act.put, List.setIfInBounds_toArray, List.set_cons_zero, List.set_cons_succ]
    refine wpAnyH_ready (rs := [1, 5]) (by kernel_rfl) (by simp) ?_
    refine hw_step 1 (some 25) rfl rfl (by rfl) (fun K hK => ?_) ?_
    · skip
      go_simp
      refine (toNd_any id up ro ep su ma ot co A n c V _ (h.new (hw2.trans hH)) hn hT).mono ?_
      rintro e wN ⟨gN, VN, rfl, hVN, hoN, hnN⟩
      have nCN := hH.trans hnN
      have zN := hnN.size
      go_simp
      refine hK.out _ _ nCN (fun hHN => ?_)
      simp only [Act.put, List.setIfInBounds_toArray, List.set_cons_zero, List.set_cons_succ]
      refine wpAnyH_ready (rs := [3, 5]) (by kernel_rfl) (by simp) ?_
      refine hw_step 3 (some 27) rfl rfl (by rfl) (fun K hK => ?_) ?_
      · skip
        go_simp
        refine (toMl_any kd tgt me at1 pr has e1 k1 p1 x m d xs _ (hx.new (hw2.trans nCN)) hX HM1.out).mono ?_
        rintro e wX ⟨gX, rfl, -, hoX, hnX⟩
        have nCX := nCN.trans hnX
        have zX := hnX.size
        replace hoN := hoN.new hnX
        go_simp
        refine hK.out _ _ nCX (fun hHX => ?_)
        simp only [Act.put, List.setIfInBounds_toArray, List.set_cons_zero, List.set_cons_succ]
        refine wpAnyH_ready (rs := [4, 5]) (by kernel_rfl) (by simp) ?_
        refine hw_step 4 (some 28) rfl rfl (by rfl) (fun K hK => ?_) ?_
        · skip
          go_simp
          refine (hS gN VN gX _ (hw2.trans nCX) hVN hoN.lg.1 hoN.nl (BsAt.of_own hoX hzb)).mono ?_
          rintro e wF ⟨A3, c3, U3, S3, s3, M3, rfl, hU, hM, hO, hnF⟩
          have nCF := nCX.trans hnF
          have zF := hnF.size
          go_simp
          refine hK.out _ _ nCF (fun hHF => ?_)
          simp only [Act.put, List.setIfInBounds_toArray, List.set_cons_zero, List.set_cons_succ]
          refine hw_call 5 (some 6) rfl rfl (by kernel_rfl) (by rfl) (fun K hK => ?_)
          go_simp
          have alZ : New wF ((wF.alloc (.cells #[.int .i64 0, .int .i64 0, .bool false, .int .i64 0, .int .i64 0, .slice none 0 0, .int .i64 0, .int .i64 0, .int .i64 0, .int .i64 0, .slice none 0 0] 39))) := ((New.refl wF).alloc (.cells #[.int .i64 0, .int .i64 0, .bool false, .int .i64 0, .int .i64 0, .slice none 0 0, .int .i64 0, .int .i64 0, .int .i64 0, .int .i64 0, .slice none 0 0] 39))
          have bZ : Blk ((wF.alloc (.cells #[.int .i64 0, .int .i64 0, .bool false, .int .i64 0, .int .i64 0, .slice none 0 0, .int .i64 0, .int .i64 0, .int .i64 0, .int .i64 0, .slice none 0 0] 39))) wF.heap.size 39 #[.int .i64 0, .int .i64 0, .bool false, .int .i64 0, .int .i64 0, .slice none 0 0, .int .i64 0, .int .i64 0, .int .i64 0, .int .i64 0, .slice none 0 0] := (Blk.mk wF wF.heap.size 39 #[.int .i64 0, .int .i64 0, .bool false, .int .i64 0, .int .i64 0, .slice none 0 0, .int .i64 0, .int .i64 0, .int .i64 0, .int .i64 0, .slice none 0 0] rfl)
          have sZ : Hid (((wF.alloc (.cells #[.int .i64 0, .int .i64 0, .bool false, .int .i64 0, .int .i64 0, .slice none 0 0, .int .i64 0, .int .i64 0, .int .i64 0, .int .i64 0, .slice none 0 0] 39))).heap.size = wF.heap.size + 1) := by unfold Hid; simp
          have nZ : New w2 ((wF.alloc (.cells #[.int .i64 0, .int .i64 0, .bool false, .int .i64 0, .int .i64 0, .slice none 0 0, .int .i64 0, .int .i64 0, .int .i64 0, .int .i64 0, .slice none 0 0] 39))) := nCF.trans alZ
          replace hO := hO.new alZ
          refine hK.out _ _ nZ (fun hHZ => ?_)
          simp only [Act.put, List.setIfInBounds_toArray, List.set_cons_zero, List.set_cons_succ]
          generalize (wF.alloc (.cells #[.int .i64 0, .int .i64 0, .bool false, .int .i64 0, .int .i64 0, .slice none 0 0, .int .i64 0, .int .i64 0, .int .i64 0, .int .i64 0, .slice none 0 0] 39)) = wZ at *
          obtain ⟨BZ, hBZ⟩ : ∃ BZ, BZ = wF.heap.size := ⟨_, rfl⟩
          rw [← hBZ] at bZ ⊢
          have hBw : w2.heap.size ≤ BZ := by have := nCF.size; omega
          have zZ : BZ < wZ.heap.size := bZ.lt
          have zZ2 : wF.heap.size ≤ wZ.heap.size := alZ.size
          have hBF : wF.heap.size ≤ BZ := by omega
          clear hBZ sZ
          refine hw_call 6 none rfl rfl (by kernel_rfl) (by rfl) (fun K hK => ?_)
          refine hw_store 39 (.tmp 6) (.tmp 28) rfl rfl BZ #[.int .i64 z1, .int .i64 id1, .bool up1, .int .i64 ro1, .int .i64 ep1, .slice A3 L.length c3, .int .i64 su1, .int .i64 ma1, .int .i64 ot1, .int .i64 co1, .slice S3 M.length s3] #[.int .i64 0, .int .i64 0, .bool false, .int .i64 0, .int .i64 0, .slice none 0 0, .int .i64 0, .int .i64 0, .int .i64 0, .int .i64 0, .slice none 0 0] rfl rfl bZ (by kernel_rfl) rfl (by kernel_rfl) ?_
          have bR := bZ.rowW #[.int .i64 z1, .int .i64 id1, .bool up1, .int .i64 ro1, .int .i64 ep1, .slice A3 L.length c3, .int .i64 su1, .int .i64 ma1, .int .i64 ot1, .int .i64 co1, .slice S3 M.length s3]
          have tR := Turn.rowW (Turn.refl (fun i => i = BZ) wZ) rfl #[.int .i64 z1, .int .i64 id1, .bool up1, .int .i64 ro1, .int .i64 ep1, .slice A3 L.length c3, .int .i64 su1, .int .i64 ma1, .int .i64 ot1, .int .i64 co1, .slice S3 M.length s3]
          have hOR := hO.turn tR (by intro j j1 j2 e; omega)
          have nR := nZ.before tR (by intro i hi e; omega)
          have zR := tR.size
          refine hK.out undef _ nR (fun hS2 => ?_)
          refine wpAnyH_done (by kernel_rfl) ?_ _
          generalize World.setRow _ _ _ = wR at *
          obtain ⟨rdR, lR, qR, -⟩ := hOR.rd
          go_wp2_with fail
          go_meet
          exact ⟨BZ, A3, c3, U3, S3, s3, M3, rfl, bR, hU, hM, rdR.up (by omega), lR, qR, nR, hBw⟩
        refine hw_step 5 (some 6) rfl rfl (by rfl) (fun K hK => ?_) ?_
        · skip
          go_simp
          have alZ : New wX ((wX.alloc (.cells #[.int .i64 0, .int .i64 0, .bool false, .int .i64 0, .int .i64 0, .slice none 0 0, .int .i64 0, .int .i64 0, .int .i64 0, .int .i64 0, .slice none 0 0] 39))) := ((New.refl wX).alloc (.cells #[.int .i64 0, .int .i64 0, .bool false, .int .i64 0, .int .i64 0, .slice none 0 0, .int .i64 0, .int .i64 0, .int .i64 0, .int .i64 0, .slice none 0 0] 39))
          have bZ : Blk ((wX.alloc (.cells #[.int .i64 0, .int .i64 0, .bool false, .int .i64 0, .int .i64 0, .slice none 0 0, .int .i64 0, .int .i64 0, .int .i64 0, .int .i64 0, .slice none 0 0] 39))) wX.heap.size 39 #[.int .i64 0, .int .i64 0, .bool false, .int .i64 0, .int .i64 0, .slice none 0 0, .int .i64 0, .int .i64 0, .int .i64 0, .int .i64 0, .slice none 0 0] := (Blk.mk wX wX.heap.size 39 #[.int .i64 0, .int .i64 0, .bool false, .int .i64 0, .int .i64 0, .slice none 0 0, .int .i64 0, .int .i64 0, .int .i64 0, .int .i64 0, .slice none 0 0] rfl)
          have sZ : Hid (((wX.alloc (.cells #[.int .i64 0, .int .i64 0, .bool false, .int .i64 0, .int .i64 0, .slice none 0 0, .int .i64 0, .int .i64 0, .int .i64 0, .int .i64 0, .slice none 0 0] 39))).heap.size = wX.heap.size + 1) := by unfold Hid; simp
          have nZ : New w2 ((wX.alloc (.cells #[.int .i64 0, .int .i64 0, .bool false, .int .i64 0, .int .i64 0, .slice none 0 0, .int .i64 0, .int .i64 0, .int .i64 0, .int .i64 0, .slice none 0 0] 39))) := nCX.trans alZ
          replace hoN := hoN.new alZ
          replace hoX := own_new hoX alZ
          refine hK.out _ _ nZ (fun hHZ => ?_)
          simp only [Act.put, List.setIfInBounds_toArray, List.set_cons_zero, List.set_cons_succ]
          generalize (wX.alloc (.cells #[.int .i64 0, .int .i64 0, .bool false, .int .i64 0, .int .i64 0, .slice none 0 0, .int .i64 0, .int .i64 0, .int .i64 0, .int .i64 0, .slice none 0 0] 39)) = wZ at *
          obtain ⟨BZ, hBZ⟩ : ∃ BZ, BZ = wX.heap.size := ⟨_, rfl⟩
          rw [← hBZ] at bZ ⊢
          have hBw : w2.heap.size ≤ BZ := by have := nCX.size; omega
          have zZ : BZ < wZ.heap.size := bZ.lt
          have zZ2 : wX.heap.size ≤ wZ.heap.size := alZ.size
          clear hBZ sZ
          refine hw_call 4 (some 28) rfl rfl (by kernel_rfl) (by rfl) (fun K hK => ?_)
          go_simp
          refine (hS gN VN gX _ (hw2.trans nZ) hVN hoN.lg.1 hoN.nl (BsAt.of_own hoX hzb)).mono ?_
          rintro e wF ⟨A3, c3, U3, S3, s3, M3, rfl, hU, hM, hO, hnF⟩
          have nCF := nZ.trans hnF
          have zF := hnF.size
          replace bZ := bZ.new hnF
          go_simp
          refine hK.out _ _ nCF (fun hHF => ?_)
          simp only [Act.put, List.setIfInBounds_toArray, List.set_cons_zero, List.set_cons_succ]
          refine hw_call 6 none rfl rfl (by kernel_rfl) (by rfl) (fun K hK => ?_)
          refine hw_store 39 (.tmp 6) (.tmp 28) rfl rfl BZ #[.int .i64 z1, .int .i64 id1, .bool up1, .int .i64 ro1, .int .i64 ep1, .slice A3 L.length c3, .int .i64 su1, .int .i64 ma1, .int .i64 ot1, .int .i64 co1, .slice S3 M.length s3] #[.int .i64 0, .int .i64 0, .bool false, .int .i64 0, .int .i64 0, .slice none 0 0, .int .i64 0, .int .i64 0, .int .i64 0, .int .i64 0, .slice none 0 0] rfl rfl bZ (by kernel_rfl) rfl (by kernel_rfl) ?_
          have bR := bZ.rowW #[.int .i64 z1, .int .i64 id1, .bool up1, .int .i64 ro1, .int .i64 ep1, .slice A3 L.length c3, .int .i64 su1, .int .i64 ma1, .int .i64 ot1, .int .i64 co1, .slice S3 M.length s3]
          have tR := Turn.rowW (Turn.refl (fun i => i = BZ) wF) rfl #[.int .i64 z1, .int .i64 id1, .bool up1, .int .i64 ro1, .int .i64 ep1, .slice A3 L.length c3, .int .i64 su1, .int .i64 ma1, .int .i64 ot1, .int .i64 co1, .slice S3 M.length s3]
          have hOR := hO.turn tR (by intro j j1 j2 e; omega)
          have nR := nCF.before tR (by intro i hi e; omega)
          have zR := tR.size
          refine hK.out undef _ nR (fun hS2 => ?_)
          refine wpAnyH_done (by kernel_rfl) ?_ _
          generalize World.setRow _ _ _ = wR at *
          obtain ⟨rdR, lR, qR, -⟩ := hOR.rd
          go_wp2_with fail
          go_meet
          exact ⟨BZ, A3, c3, U3, S3, s3, M3, rfl, bR, hU, hM, rdR.up (by omega), lR, qR, nR, hBw⟩
        exact fun j hj => by cases hj
      refine hw_step 5 (some 6) rfl rfl (by rfl) (fun K hK => ?_) ?_
      · skip
        go_simp
        have alZ : New wN ((wN.alloc (.cells #[.int .i64 0, .int .i64 0, .bool false, .int .i64 0, .int .i64 0, .slice none 0 0, .int .i64 0, .int .i64 0, .int .i64 0, .int .i64 0, .slice none 0 0] 39))) := ((New.refl wN).alloc (.cells #[.int .i64 0, .int .i64 0, .bool false, .int .i64 0, .int .i64 0, .slice none 0 0, .int .i64 0, .int .i64 0, .int .i64 0, .int .i64 0, .slice none 0 0] 39))
        have bZ : Blk ((wN.alloc (.cells #[.int .i64 0, .int .i64 0, .bool false, .int .i64 0, .int .i64 0, .slice none 0 0, .int .i64 0, .int .i64 0, .int .i64 0, .int .i64 0, .slice none 0 0] 39))) wN.heap.size 39 #[.int .i64 0, .int .i64 0, .bool false, .int .i64 0, .int .i64 0, .slice none 0 0, .int .i64 0, .int .i64 0, .int .i64 0, .int .i64 0, .slice none 0 0] := (Blk.mk wN wN.heap.size 39 #[.int .i64 0, .int .i64 0, .bool false, .int .i64 0, .int .i64 0, .slice none 0 0, .int .i64 0, .int .i64 0, .int .i64 0, .int .i64 0, .slice none 0 0] rfl)
        have sZ : Hid (((wN.alloc (.cells #[.int .i64 0, .int .i64 0, .bool false, .int .i64 0, .int .i64 0, .slice none 0 0, .int .i64 0, .int .i64 0, .int .i64 0, .int .i64 0, .slice none 0 0] 39))).heap.size = wN.heap.size + 1) := by unfold Hid; simp
        have nZ : New w2 ((wN.alloc (.cells #[.int .i64 0, .int .i64 0, .bool false, .int .i64 0, .int .i64 0, .slice none 0 0, .int .i64 0, .int .i64 0, .int .i64 0, .int .i64 0, .slice none 0 0] 39))) := nCN.trans alZ
        replace hoN := hoN.new alZ
        refine hK.out _ _ nZ (fun hHZ => ?_)
        simp only [Act.put, List.setIfInBounds_toArray, List.set_cons_zero, List.set_cons_succ]
        generalize (wN.alloc (.cells #[.int .i64 0, .int .i64 0, .bool false, .int .i64 0, .int .i64 0, .slice none 0 0, .int .i64 0, .int .i64 0, .int .i64 0, .int .i64 0, .slice none 0 0] 39)) = wZ at *
        obtain ⟨BZ, hBZ⟩ : ∃ BZ, BZ = wN.heap.size := ⟨_, rfl⟩
        rw [← hBZ] at bZ ⊢
        have hBw : w2.heap.size ≤ BZ := by have := nCN.size; omega
        have zZ : BZ < wZ.heap.size := bZ.lt
        have zZ2 : wN.heap.size ≤ wZ.heap.size := alZ.size
        clear hBZ sZ
        refine hw_call 3 (some 27) rfl rfl (by kernel_rfl) (by rfl) (fun K hK => ?_)
        go_simp
        refine (toMl_any kd tgt me at1 pr has e1 k1 p1 x m d xs _ (hx.new (hw2.trans nZ)) hX HM1.out).mono ?_
        rintro e wX ⟨gX, rfl, -, hoX, hnX⟩
        have nCX := nZ.trans hnX
        have zX := hnX.size
        replace hoN := hoN.new hnX
        replace bZ := bZ.new hnX
        go_simp
        refine hK.out _ _ nCX (fun hHX => ?_)
        simp only [Act.put, List.setIfInBounds_toArray, List.set_cons_zero, List.set_cons_succ]
        refine hw_call 4 (some 28) rfl rfl (by kernel_rfl) (by rfl) (fun K hK => ?_)
        go_simp
        refine (hS gN VN gX _ (hw2.trans nCX) hVN hoN.lg.1 hoN.nl (BsAt.of_own hoX hzb)).mono ?_
        rintro e wF ⟨A3, c3, U3, S3, s3, M3, rfl, hU, hM, hO, hnF⟩
        have nCF := nCX.trans hnF
        have zF := hnF.size
        replace bZ := bZ.new hnF
        go_simp
        refine hK.out _ _ nCF (fun hHF => ?_)
        simp only [Act.put, List.setIfInBounds_toArray, List.set_cons_zero, List.set_cons_succ]
        refine hw_call 6 none rfl rfl (by kernel_rfl) (by rfl) (fun K hK => ?_)
        refine hw_store 39 (.tmp 6) (.tmp 28) rfl rfl BZ #[.int .i64 z1, .int .i64 id1, .bool up1, .int .i64 ro1, .int .i64 ep1, .slice A3 L.length c3, .int .i64 su1, .int .i64 ma1, .int .i64 ot1, .int .i64 co1, .slice S3 M.length s3] #[.int .i64 0, .int .i64 0, .bool false, .int .i64 0, .int .i64 0, .slice none 0 0, .int .i64 0, .int .i64 0, .int .i64 0, .int .i64 0, .slice none 0 0] rfl rfl bZ (by kernel_rfl) rfl (by kernel_rfl) ?_
        have bR := bZ.rowW #[.int .i64 z1, .int .i64 id1, .bool up1, .int .i64 ro1, .int .i64 ep1, .slice A3 L.length c3, .int .i64 su1, .int .i64 ma1, .int .i64 ot1, .int .i64 co1, .slice S3 M.length s3]
        have tR := Turn.rowW (Turn.refl (fun i => i = BZ) wF) rfl #[.int .i64 z1, .int .i64 id1, .bool up1, .int .i64 ro1, .int .i64 ep1, .slice A3 L.length c3, .int .i64 su1, .int .i64 ma1, .int .i64 ot1, .int .i64 co1, .slice S3 M.length s3]
        have hOR := hO.turn tR (by intro j j1 j2 e; omega)
        have nR := nCF.before tR (by intro i hi e; omega)
        have zR := tR.size
        refine hK.out undef _ nR (fun hS2 => ?_)
        refine wpAnyH_done (by kernel_rfl) ?_ _
        generalize World.setRow _ _ _ = wR at *
        obtain ⟨rdR, lR, qR, -⟩ := hOR.rd
        go_wp2_with fail
        go_meet
        exact ⟨BZ, A3, c3, U3, S3, s3, M3, rfl, bR, hU, hM, rdR.up (by omega), lR, qR, nR, hBw⟩
      exact fun j hj => by cases hj
    refine hw_step 5 (some 6) rfl rfl (by rfl) (fun K hK => ?_) ?_
    · skip
      go_simp
      have alZ : New w2 ((w2.alloc (.cells #[.int .i64 0, .int .i64 0, .bool false, .int .i64 0, .int .i64 0, .slice none 0 0, .int .i64 0, .int .i64 0, .int .i64 0, .int .i64 0, .slice none 0 0] 39)).drew) := ((New.refl w2).alloc (.cells #[.int .i64 0, .int .i64 0, .bool false, .int .i64 0, .int .i64 0, .slice none 0 0, .int .i64 0, .int .i64 0, .int .i64 0, .int .i64 0, .slice none 0 0] 39)).drew
      have bZ : Blk ((w2.alloc (.cells #[.int .i64 0, .int .i64 0, .bool false, .int .i64 0, .int .i64 0, .slice none 0 0, .int .i64 0, .int .i64 0, .int .i64 0, .int .i64 0, .slice none 0 0] 39)).drew) w2.heap.size 39 #[.int .i64 0, .int .i64 0, .bool false, .int .i64 0, .int .i64 0, .slice none 0 0, .int .i64 0, .int .i64 0, .int .i64 0, .int .i64 0, .slice none 0 0] := (Blk.mk w2 w2.heap.size 39 #[.int .i64 0, .int .i64 0, .bool false, .int .i64 0, .int .i64 0, .slice none 0 0, .int .i64 0, .int .i64 0, .int .i64 0, .int .i64 0, .slice none 0 0] rfl).new ((New.refl _).drew)
      have sZ : Hid (((w2.alloc (.cells #[.int .i64 0, .int .i64 0, .bool false, .int .i64 0, .int .i64 0, .slice none 0 0, .int .i64 0, .int .i64 0, .int .i64 0, .int .i64 0, .slice none 0 0] 39)).drew).heap.size = w2.heap.size + 1) := by unfold Hid; simp
      have nZ : New w2 ((w2.alloc (.cells #[.int .i64 0, .int .i64 0, .bool false, .int .i64 0, .int .i64 0, .slice none 0 0, .int .i64 0, .int .i64 0, .int .i64 0, .int .i64 0, .slice none 0 0] 39)).drew) := alZ
      refine hK.out _ _ nZ (fun hHZ => ?_)
      simp only [Act.put, List.setIfInBounds_toArray, List.set_cons_zero, List.set_cons_succ]
      generalize (w2.alloc (.cells #[.int .i64 0, .int .i64 0, .bool false, .int .i64 0, .int .i64 0, .slice none 0 0, .int .i64 0, .int .i64 0, .int .i64 0, .int .i64 0, .slice none 0 0] 39)).drew = wZ at *
      obtain ⟨BZ, hBZ⟩ : ∃ BZ, BZ = w2.heap.size := ⟨_, rfl⟩
      rw [← hBZ] at bZ ⊢
      have hBw : w2.heap.size ≤ BZ := by omega
      have zZ : BZ < wZ.heap.size := bZ.lt
      have zZ2 : w2.heap.size ≤ wZ.heap.size := alZ.size
      clear hBZ sZ
      refine hw_call 1 (some 25) rfl rfl (by kernel_rfl) (by rfl) (fun K hK => ?_)
      go_simp
      refine (toNd_any id up ro ep su ma ot co A n c V _ (h.new (hw2.trans nZ)) hn hT).mono ?_
      rintro e wN ⟨gN, VN, rfl, hVN, hoN, hnN⟩
      have nCN := nZ.trans hnN
      have zN := hnN.size
      replace bZ := bZ.new hnN
      go_simp
      refine hK.out _ _ nCN (fun hHN => ?_)
      simp only [Act.put, List.setIfInBounds_toArray, List.set_cons_zero, List.set_cons_succ]
      refine hw_call 3 (some 27) rfl rfl (by kernel_rfl) (by rfl) (fun K hK => ?_)
      go_simp
      refine (toMl_any kd tgt me at1 pr has e1 k1 p1 x m d xs _ (hx.new (hw2.trans nCN)) hX HM1.out).mono ?_
      rintro e wX ⟨gX, rfl, -, hoX, hnX⟩
      have nCX := nCN.trans hnX
      have zX := hnX.size
      replace hoN := hoN.new hnX
      replace bZ := bZ.new hnX
      go_simp
      refine hK.out _ _ nCX (fun hHX => ?_)
      simp only [Act.put, List.setIfInBounds_toArray, List.set_cons_zero, List.set_cons_succ]
      refine hw_call 4 (some 28) rfl rfl (by kernel_rfl) (by rfl) (fun K hK => ?_)
      go_simp
      refine (hS gN VN gX _ (hw2.trans nCX) hVN hoN.lg.1 hoN.nl (BsAt.of_own hoX hzb)).mono ?_
      rintro e wF ⟨A3, c3, U3, S3, s3, M3, rfl, hU, hM, hO, hnF⟩
      have nCF := nCX.trans hnF
      have zF := hnF.size
      replace bZ := bZ.new hnF
      go_simp
      refine hK.out _ _ nCF (fun hHF => ?_)
      simp only [Act.put, List.setIfInBounds_toArray, List.set_cons_zero, List.set_cons_succ]
      refine hw_call 6 none rfl rfl (by kernel_rfl) (by rfl) (fun K hK => ?_)
      refine hw_store 39 (.tmp 6) (.tmp 28) rfl rfl BZ #[.int .i64 z1, .int .i64 id1, .bool up1, .int .i64 ro1, .int .i64 ep1, .slice A3 L.length c3, .int .i64 su1, .int .i64 ma1, .int .i64 ot1, .int .i64 co1, .slice S3 M.length s3] #[.int .i64 0, .int .i64 0, .bool false, .int .i64 0, .int .i64 0, .slice none 0 0, .int .i64 0, .int .i64 0, .int .i64 0, .int .i64 0, .slice none 0 0] rfl rfl bZ (by kernel_rfl) rfl (by kernel_rfl) ?_
      have bR := bZ.rowW #[.int .i64 z1, .int .i64 id1, .bool up1, .int .i64 ro1, .int .i64 ep1, .slice A3 L.length c3, .int .i64 su1, .int .i64 ma1, .int .i64 ot1, .int .i64 co1, .slice S3 M.length s3]
      have tR := Turn.rowW (Turn.refl (fun i => i = BZ) wF) rfl #[.int .i64 z1, .int .i64 id1, .bool up1, .int .i64 ro1, .int .i64 ep1, .slice A3 L.length c3, .int .i64 su1, .int .i64 ma1, .int .i64 ot1, .int .i64 co1, .slice S3 M.length s3]
      have hOR := hO.turn tR (by intro j j1 j2 e; omega)
      have nR := nCF.before tR (by intro i hi e; omega)
      have zR := tR.size
      refine hK.out undef _ nR (fun hS2 => ?_)
      refine wpAnyH_done (by kernel_rfl) ?_ _
      generalize World.setRow _ _ _ = wR at *
      obtain ⟨rdR, lR, qR, -⟩ := hOR.rd
      go_wp2_with fail
      go_meet
      exact ⟨BZ, A3, c3, U3, S3, s3, M3, rfl, bR, hU, hM, rdR.up (by omega), lR, qR, nR, hBw⟩
    exact fun j hj => by cases hj
  case rest =>
  obtain ⟨B3, A3, c3, U3, S3, s3, M3, rfl, b3, hU3, hM3, s3r, l3, q3, hn3, hB3⟩ := hcut
  have hw3 := hw2.trans hn3
  have bA3 := bA2.new hn3
  have bB3 := bB2.new hn3
  have lA3 := bA3.lt
  have lB3 := bB3.lt
  have l33 := b3.lt
  clear bA2 bB2 hn3
  have cA := bA3.cells
  go_wp2_with fail
  refine (toNd_any id up ro ep su ma ot co A n c V _ (h.new hw3) hn hT).mono ?_
  rintro e w4 ⟨g4, V4, rfl, hV4, ho4, hn4⟩
  have al4 := (New.refl w4).alloc (.cells #[.int .i64 id, .bool up, .int .i64 ro, .int .i64 ep, .slice (some ⟨g4, 0, none⟩) n n, .int .i64 su, .int .i64 ma, .int .i64 ot, .int .i64 co] 36)
  have n4 := hn4.trans al4
  have bA4 := bA3.new n4
  have bB4 := bB3.new n4
  have b34 := b3.new n4
  have b4 := Blk.mk w4 w4.heap.size 36 #[.int .i64 id, .bool up, .int .i64 ro, .int .i64 ep, .slice (some ⟨g4, 0, none⟩) n n, .int .i64 su, .int .i64 ma, .int .i64 ot, .int .i64 co] rfl
  have s4r := s3r.new n4
  have o4 := ho4.new al4
  have hw4 := hw3.trans n4
  have z34 := hn4.size
  have z4 := al4.size
  have l4 := b4.lt
  clear cA bA3 bB3 b3 hn4 ho4 s3r n4 al4
  go_upto_region 10 with fail
  generalize w4.alloc (.cells #[.int .i64 id, .bool up, .int .i64 ro, .int .i64 ep, .slice (some ⟨g4, 0, none⟩) n n, .int .i64 su, .int .i64 ma, .int .i64 ot, .int .i64 co] 36) = w4a at *
  generalize hB4 : w4.heap.size = B4 at *
  have cB := bB4.cells
  go_wp2_with fail
  refine (toMl_any kd tgt me at1 pr has e1 k1 p1 x m d xs _ (hx.new hw4) hX HM1.out).mono ?_
  rintro e w5 ⟨g5, rfl, hg5, ho5, hn5⟩
  have al5 := (New.refl w5).alloc (.cells #[.int .i64 kd, .int .i64 tgt, .int .i64 me, .int .i64 at1, .int .i64 pr, .bool has, .int .i64 e1, .int .i64 k1, .int .i64 p1, .slice (some ⟨g5, 0, none⟩) m m] 46)
  have n5 := hn5.trans al5
  have bA5 := bA4.new n5
  have bB5 := bB4.new n5
  have b35 := b34.new n5
  have b45 := b4.new n5
  have b5 := Blk.mk w5 w5.heap.size 46 #[.int .i64 kd, .int .i64 tgt, .int .i64 me, .int .i64 at1, .int .i64 pr, .bool has, .int .i64 e1, .int .i64 k1, .int .i64 p1, .slice (some ⟨g5, 0, none⟩) m m] rfl
  have s5r := s4r.new n5
  have o45 := o4.new n5
  have lg5 := (ho5.lt g5 rfl).2
  have o5 := own_new ho5 al5
  have hw5 := hw4.trans n5
  have z45 := hn5.size
  have z5 := al5.size
  have l5 := b5.lt
  clear cB bA4 bB4 b34 b4 s4r o4 hn5 ho5 n5 al5
  go_upto_region 11 with fail
  generalize w5.alloc (.cells #[.int .i64 kd, .int .i64 tgt, .int .i64 me, .int .i64 at1, .int .i64 pr, .bool has, .int .i64 e1, .int .i64 k1, .int .i64 p1, .slice (some ⟨g5, 0, none⟩) m m] 46) = w5a at *
  generalize hB5 : w5.heap.size = B5 at *
  have c4 := b45.cells
  have c5x := b5.cells
  go_wp2_with fail
  refine (hI g4 V4 g5 _ hw5 hV4 o45.lg.1 o45.nl (BsAt.of_own o5 hzb)).mono ?_
  rintro e w6 ⟨A5, c5, U5, S5, s5, M5, rfl, hU5, hM5, hO5, hn6⟩
  have al6 := (New.refl w6).alloc (.cells #[.int .i64 z1, .int .i64 id1, .bool up1, .int .i64 ro1, .int .i64 ep1, .slice A5 L.length c5, .int .i64 su1, .int .i64 ma1, .int .i64 ot1, .int .i64 co1, .slice S5 M.length s5] 39)
  have n6 := hn6.trans al6
  have bA6 := bA5.new n6
  have bB6 := bB5.new n6
  have b36 := b35.new n6
  have b46 := b45.new n6
  have b56 := b5.new n6
  have b6 := Blk.mk w6 w6.heap.size 39 #[.int .i64 z1, .int .i64 id1, .bool up1, .int .i64 ro1, .int .i64 ep1, .slice A5 L.length c5, .int .i64 su1, .int .i64 ma1, .int .i64 ot1, .int .i64 co1, .slice S5 M.length s5] rfl
  have s6r := s5r.new n6
  have o46 := o45.new n6
  have o56 := own_new o5 n6
  have g6 := hO5.new al6
  have hw6 := hw5.trans n6
  have z56 := hn6.size
  have z6 := al6.size
  have l6 := b6.lt
  obtain ⟨-, l5', q5, -⟩ := hO5.rd
  clear c4 c5x bA5 bB5 b35 b45 b5 s5r o45 o5 hn6 hO5 n6 al6
  go_upto_region 12 with fail
  generalize w6.alloc (.cells #[.int .i64 z1, .int .i64 id1, .bool up1, .int .i64 ro1, .int .i64 ep1, .slice A5 L.length c5, .int .i64 su1, .int .i64 ma1, .int .i64 ot1, .int .i64 co1, .slice S5 M.length s5] 39) = w6a at *
  generalize hB6 : w6.heap.size = B6 at *
  have c3' := b36.cells
  have c5' := b6.cells
  go_wp2_with fail
  refine (eqNR_any z1 id1 up1 ro1 ep1 su1 ma1 ot1 co1 A5 A3 S5 S3 L.length c5 c3 M.length s5 s3 U5 U3 M5 M3 _ g6.rd.1.lg s6r.lg (hU5.trans hU3.symm) l5' ?lm g6.rd.1.sd s6r.sd (hM5.trans hM3.symm) q5).mono ?_
  case lm => have h1 := totK_len U5; have h2 := hLT U5 hU5; omega
  rintro e w7 ⟨rfl, hn7⟩
  have bA7 := bA6.new hn7
  have bB7 := bB6.new hn7
  have b37 := b36.new hn7
  have b47 := b46.new hn7
  have b57 := b56.new hn7
  have b67 := b6.new hn7
  have s7r := s6r.new hn7
  have o47 := o46.new hn7
  have o57 := own_new o56 hn7
  have g7 := g6.new hn7
  have hw7 := hw6.trans hn7
  have z67 := hn7.size
  clear bA6 bB6 b36 b46 b56 b6 s6r o46 o56 g6 c3' c5' hn7
  have cA := bA7.cells
  have cB := b47.cells
  have cAd := (bA7.new ((New.refl _).drew)).cells
  have cBd := (b47.new ((New.refl _).drew)).cells
  go_wp2_with fail
  go_region_held3 (fun W => (∀ j, W.cell? ⟨w.heap.size, j, none⟩ = (#[.int .i64 id, .bool up, .int .i64 ro, .int .i64 ep, .slice A n c, .int .i64 su, .int .i64 ma, .int .i64 ot, .int .i64 co] : Array Value)[j]?) ∧ (∀ j, W.cell? ⟨B4, j, none⟩ = (#[.int .i64 id, .bool up, .int .i64 ro, .int .i64 ep, .slice (some ⟨g4, 0, none⟩) n n, .int .i64 su, .int .i64 ma, .int .i64 ot, .int .i64 co] : Array Value)[j]?)) (first | exact ⟨cA, cB⟩ | exact ⟨cAd, cBd⟩ | exact ⟨cA7, cB7⟩ | exact ⟨cA8, cB8⟩)
    (first
      | (go_at_call 7; refine (toNd_any id up ro ep su ma ot co A n c V _ ?_ hn hT).mono ?_; exact (h.new hw7).new ((New.refl _).drew); rintro e w8 ⟨g8, V8, rfl, hV8, ho8, hn8⟩; have n8 : New w7 w8 := ((New.refl _).drew).trans hn8; have cA7 := (bA7.new n8).cells; have cB7 := (b47.new n8).cells)
      | (go_at_call 11; refine (eqNd_any id up ro ep su ma ot co _ _ n n n V4 V8 _ (o47.lg.1.new n8) ho8.lg.1 (hV4.trans hV8.symm) o47.lg.2 HNm.out).mono ?_; rintro e w9 ⟨rfl, hn9⟩; have n9 := n8.trans hn9; have cA8 := (bA7.new n9).cells; have cB8 := (b47.new n9).cells))
  have bA9 := bA7.new n9
  have bB9 := bB7.new n9
  have b39 := b37.new n9
  have b49 := b47.new n9
  have b59 := b57.new n9
  have b69 := b67.new n9
  have s9r := s7r.new n9
  have o49 := o47.new n9
  have o59 := own_new o57 n9
  have g9 := g7.new n9
  have hw9 := hw7.trans n9
  have z79 := n9.size
  clear cA cB cAd cBd cA7 cB7 cA8 cB8 bA7 bB7 b37 b47 b57 b67 s7r o47 o57 g7 n8 n9 hn8 hn9 ho8 hV8
  have cA := bB9.cells
  have cB := b59.cells
  have cAd := (bB9.new ((New.refl _).drew)).cells
  have cBd := (b59.new ((New.refl _).drew)).cells
  go_wp2_with fail
  go_region_held3 (fun W => (∀ j, W.cell? ⟨w.heap.size + 1, j, none⟩ = (#[.int .i64 kd, .int .i64 tgt, .int .i64 me, .int .i64 at1, .int .i64 pr, .bool has, .int .i64 e1, .int .i64 k1, .int .i64 p1, .slice x m d] : Array Value)[j]?) ∧ (∀ j, W.cell? ⟨B5, j, none⟩ = (#[.int .i64 kd, .int .i64 tgt, .int .i64 me, .int .i64 at1, .int .i64 pr, .bool has, .int .i64 e1, .int .i64 k1, .int .i64 p1, .slice (some ⟨g5, 0, none⟩) m m] : Array Value)[j]?)) (first | exact ⟨cA, cB⟩ | exact ⟨cAd, cBd⟩ | exact ⟨cA7, cB7⟩ | exact ⟨cA8, cB8⟩)
    (first
      | (go_at_call 8; refine (toMl_any kd tgt me at1 pr has e1 k1 p1 x m d xs _ ?_ hX HM1.out).mono ?_; exact (hx.new hw9).new ((New.refl _).drew); rintro e w10 ⟨g10, rfl, -, ho10, hn10⟩; have n10 : New w9 w10 := ((New.refl _).drew).trans hn10; have cA7 := (bB9.new n10).cells; have cB7 := (b59.new n10).cells)
      | (go_at_call 12; refine (eqMl_any kd tgt me at1 pr has e1 k1 p1 _ _ m m m xs _ ((BsAt.of_own o59 hzb).new n10) (BsAt.of_own ho10 hzb) hX HM1.out).mono ?_; rintro e w11 ⟨rfl, hn11⟩; have n11 := n10.trans hn11; have cA8 := (bB9.new n11).cells; have cB8 := (b59.new n11).cells))
  have bA11 := bA9.new n11
  have bB11 := bB9.new n11
  have b311 := b39.new n11
  have b411 := b49.new n11
  have b511 := b59.new n11
  have b611 := b69.new n11
  have s11r := s9r.new n11
  have o411 := o49.new n11
  have o511 := own_new o59 n11
  have g11 := g9.new n11
  have hw11 := hw9.trans n11
  have z911 := n11.size
  have hT4 : totK V4 ≤ 2097152 := by rw [totK_map V4 V hV4]; omega
  clear cA cB cAd cBd cA7 cB7 cA8 cB8 bA9 bB9 b39 b49 b59 b69 s9r o49 o59 g9 n10 n11 hn10 hn11 ho10
  have cB := b411.cells
  go_wp2_with fail
  refine (markNd_any id up ro ep su ma ot co _ n n _ _ 1 V4 _ o411 hT4 (by omega) (by omega)).mono ?_
  rintro e w12 ⟨rfl, -, ht12⟩
  have ek := endK_bd V4 1
  have bA12 := bA11.turn ht12 (by omega)
  have bB12 := bB11.turn ht12 (by omega)
  have b312 := b311.turn ht12 (by omega)
  have b512 := b511.turn ht12 (by omega)
  have b612 := b611.turn ht12 (by omega)
  have s12r := s11r.turn ht12 (fun k hk e => by omega)
  have g12 := g11.turn ht12 (fun k h1 h2 e => by omega)
  have o512 := own_turn o511 ht12 (by omega)
  have hw12 : New w w12 := hw11.before ht12 (fun i hi e => by omega)
  have z12 := ht12.size
  clear bA11 bB11 b311 b411 b511 b611 s11r o411 o511 g11 cB ht12
  generalize endK 1 V4 = k9 at *
  have cB := b512.cells
  go_wp2_with fail
  refine (markMl_any kd tgt me at1 pr has e1 k1 p1 _ m m k9 xs _ (OwAt.of_own o512) (by have := HM1.out; omega) (by omega) (by omega)).mono ?_
  rintro e w13 ⟨rfl, -, ht13⟩
  have hin : ∀ i, inA (some ⟨g5, 0, none⟩) i → i = g5 := by rintro i ⟨xx, hxx, e⟩; cases hxx; exact e
  have bA13 := bA12.turn ht13 (fun e => by have := hin _ e; omega)
  have bB13 := bB12.turn ht13 (fun e => by have := hin _ e; omega)
  have b313 := b312.turn ht13 (fun e => by have := hin _ e; omega)
  have b613 := b612.turn ht13 (fun e => by have := hin _ e; omega)
  have s13r := s12r.turn ht13 (fun k hk e => by have := hin _ e; omega)
  have g13 := g12.turn ht13 (fun k h1 h2 e => by have := hin _ e; omega)
  have hw13 : New w w13 := hw12.before ht13 (fun i hi e => by have := hin _ e; omega)
  have z13 := ht13.size
  clear bA12 bB12 b312 b512 b612 s12r o512 g12 cB ht13
  obtain ⟨k10, hk10⟩ : ∃ k10 : Int, k10 = k9 + (m : Int) := ⟨_, rfl⟩
  rw [← hk10]
  have hk9 : ¬ k10 < 0 := by omega
  have hk9d : decide (k10 < 0) = false := by simpa using hk9
  clear hk10
  have c3' := b313.cells
  have c5' := b613.cells
  go_wp2_with fail
  refine (eqNR_any z1 id1 up1 ro1 ep1 su1 ma1 ot1 co1 A5 A3 S5 S3 L.length c5 c3 M.length s5 s3 U5 U3 M5 M3 _ g13.rd.1.lg s13r.lg (hU5.trans hU3.symm) l5' ?lm2 g13.rd.1.sd s13r.sd (hM5.trans hM3.symm) q5).mono ?_
  case lm2 => have h1 := totK_len U5; have h2 := hLT U5 hU5; omega
  rintro e w14 ⟨rfl, hn14⟩
  have bA14 := bA13.new hn14
  have bB14 := bB13.new hn14
  have b314 := b313.new hn14
  have b614 := b613.new hn14
  have s14r := s13r.new hn14
  have g14 := g13.new hn14
  have hw14 := hw13.trans hn14
  have z14 := hn14.size
  clear bA13 bB13 b313 b613 s13r g13 c3' c5' hn14
  have c5' := b614.cells
  go_wp2_with fail
  refine (markNR_own z1 id1 up1 ro1 ep1 su1 ma1 ot1 co1 A5 S5 L.length c5 M.length s5 _ _ U5 M5 _ g14 (hLT U5 hU5) (by omega)).mono ?_
  rintro e w15 ⟨rfl, m15, n15, ht15⟩
  have bA15 := bA14.turn ht15 (by omega)
  have bB15 := bB14.turn ht15 (by omega)
  have b315 := b314.turn ht15 (by omega)
  have b615 := b614.turn ht15 (by omega)
  have s15r := s14r.turn ht15 (fun k hk e => by omega)
  have hw15 : New w w15 := hw14.before ht15 (fun i hi e => by omega)
  have hem := endM_bd (endK 1 U5) M5
  have hek := endK_bd U5 1
  have hlU : ∀ u ∈ U5, u.r.xs.length ≤ 1048576 := by
    obtain ⟨lo, hi, P, h1, -⟩ := g14
    exact fun u hu => (h1.path.bd u hu).2
  clear bA14 bB14 b314 b614 s14r g14 c5' ht15
  have c5' := b615.cells
  have HE : Hid (∃ E, E = endM (endK 1 U5) M5) := ⟨_, rfl⟩
  obtain ⟨E, hE⟩ := HE.out
  have HEE : Hid (endM (endK 1 U5) M5 = E) := hE.symm
  have hE0 : ¬ E < 0 := by omega
  have hE0d : decide (E < 0) = false := by simpa using hE0
  have hEE : (E != E) = false := by simp
  rw [HEE.out]
  clear hE hem hek
  go_wp2_with fail
  refine (heldNR_any z1 id1 up1 ro1 ep1 su1 ma1 ot1 co1 A5 S5 L.length c5 M.length s5 U5 M5 _ m15 l5' (hLT U5 hU5) hlU n15 q5).mono ?_
  rintro e w16 ⟨rfl, hn16⟩
  rw [HEE.out]
  have bA16 := bA15.new hn16
  have bB16 := bB15.new hn16
  have b316 := b315.new hn16
  have b616 := b615.new hn16
  have s16r := s15r.new hn16
  have m16 := m15.new hn16
  have n16 := n15.new hn16
  have hw16 := hw15.trans hn16
  clear bA15 bB15 b315 b615 s15r m15 n15 c5' hn16
  go_upto_region 31 with fail
  go_cut [13] from 75 to 79 (fun v wx => ∃ B A9 c9 U9 S9 s9 M9, v = .pointer (some ⟨B, 0, none⟩) ∧ Blk wx B 39 #[.int .i64 z1, .int .i64 id1, .bool up1, .int .i64 ro1, .int .i64 ep1, .slice A9 L.length c9, .int .i64 su1, .int .i64 ma1, .int .i64 ot1, .int .i64 co1, .slice S9 M.length s9] ∧ U9.map EkV.r = L ∧ M9.map MlV.m = M ∧ NrRd wx wx.heap.size A9 U9 S9 M9 ∧ U9.length = L.length ∧ M9.length = M.length ∧ New w16 wx ∧ w16.heap.size ≤ B)
  case first =>
    refine hw_start (n := 7) (S := fun X => New w16 X) rfl (by kernel_rfl) ((New.refl _).drew) (fun hH => ?_)
    refine' hw_take 0 (some 75) (.agg #[.int .i64 id, .bool up, .int .i64 ro, .int .i64 ep, .slice A n c, .int .i64 su, .int .i64 ma, .int .i64 ot, .int .i64 co]) rfl rfl (by kernel_rfl) (by kernel_rfl) (by kernel_rfl) (fun _ _ _ h => h) (by rfl) hH ?hyA31 ?restA31
    case hyA31 =>
      intro X hX
      exact run_load_blk 24 (.tmp 2) rfl w.heap.size rfl #[.int .i64 id, .bool up, .int .i64 ro, .int .i64 ep, .slice A n c, .int .i64 su, .int .i64 ma, .int .i64 ot, .int .i64 co] _ (bA16.new hX) Try.underlying24 rfl (by kernel_rfl)
    simp only [Act.put, List.setIfInBounds_toArray, List.set_cons_zero, List.set_cons_succ]
    refine' hw_take 2 (some 77) (.agg #[.int .i64 kd, .int .i64 tgt, .int .i64 me, .int .i64 at1, .int .i64 pr, .bool has, .int .i64 e1, .int .i64 k1, .int .i64 p1, .slice x m d]) rfl rfl (by kernel_rfl) (by kernel_rfl) (by kernel_rfl) (fun _ _ _ h => h) (by rfl) hH ?hyB31 ?restB31
    case hyB31 =>
      intro X hX
      exact run_load_blk 31 (.tmp 3) rfl (w.heap.size + 1) rfl #[.int .i64 kd, .int .i64 tgt, .int .i64 me, .int .i64 at1, .int .i64 pr, .bool has, .int .i64 e1, .int .i64 k1, .int .i64 p1, .slice x m d] _ (bB16.new hX) Try.underlying31 rfl (by kernel_rfl)
    simp only [Act.put, List.setIfInBounds_toArray, List.set_cons_zero, List.set_cons_succ]
    refine wpAnyH_ready (rs := [1, 5]) (by kernel_rfl) (by simp) ?_
    refine hw_step 1 (some 76) rfl rfl (by rfl) (fun K hK => ?_) ?_
    · skip
      go_simp
      refine (toNd_any id up ro ep su ma ot co A n c V _ (h.new (hw16.trans hH)) hn hT).mono ?_
      rintro e wN ⟨gN, VN, rfl, hVN, hoN, hnN⟩
      have nCN := hH.trans hnN
      have zN := hnN.size
      go_simp
      refine hK.out _ _ nCN (fun hHN => ?_)
      simp only [Act.put, List.setIfInBounds_toArray, List.set_cons_zero, List.set_cons_succ]
      refine wpAnyH_ready (rs := [3, 5]) (by kernel_rfl) (by simp) ?_
      refine hw_step 3 (some 78) rfl rfl (by rfl) (fun K hK => ?_) ?_
      · skip
        go_simp
        refine (toMl_any kd tgt me at1 pr has e1 k1 p1 x m d xs _ (hx.new (hw16.trans nCN)) hX HM1.out).mono ?_
        rintro e wX ⟨gX, rfl, -, hoX, hnX⟩
        have nCX := nCN.trans hnX
        have zX := hnX.size
        replace hoN := hoN.new hnX
        go_simp
        refine hK.out _ _ nCX (fun hHX => ?_)
        simp only [Act.put, List.setIfInBounds_toArray, List.set_cons_zero, List.set_cons_succ]
        refine wpAnyH_ready (rs := [4, 5]) (by kernel_rfl) (by simp) ?_
        refine hw_step 4 (some 79) rfl rfl (by rfl) (fun K hK => ?_) ?_
        · skip
          go_simp
          refine (hI gN VN gX _ (hw16.trans nCX) hVN hoN.lg.1 hoN.nl (BsAt.of_own hoX hzb)).mono ?_
          rintro e wF ⟨A9, c9, U9, S9, s9, M9, rfl, hU, hM, hO, hnF⟩
          have nCF := nCX.trans hnF
          have zF := hnF.size
          go_simp
          refine hK.out _ _ nCF (fun hHF => ?_)
          simp only [Act.put, List.setIfInBounds_toArray, List.set_cons_zero, List.set_cons_succ]
          refine hw_call 5 (some 13) rfl rfl (by kernel_rfl) (by rfl) (fun K hK => ?_)
          go_simp
          have alZ : New wF ((wF.alloc (.cells #[.int .i64 0, .int .i64 0, .bool false, .int .i64 0, .int .i64 0, .slice none 0 0, .int .i64 0, .int .i64 0, .int .i64 0, .int .i64 0, .slice none 0 0] 39))) := ((New.refl wF).alloc (.cells #[.int .i64 0, .int .i64 0, .bool false, .int .i64 0, .int .i64 0, .slice none 0 0, .int .i64 0, .int .i64 0, .int .i64 0, .int .i64 0, .slice none 0 0] 39))
          have bZ : Blk ((wF.alloc (.cells #[.int .i64 0, .int .i64 0, .bool false, .int .i64 0, .int .i64 0, .slice none 0 0, .int .i64 0, .int .i64 0, .int .i64 0, .int .i64 0, .slice none 0 0] 39))) wF.heap.size 39 #[.int .i64 0, .int .i64 0, .bool false, .int .i64 0, .int .i64 0, .slice none 0 0, .int .i64 0, .int .i64 0, .int .i64 0, .int .i64 0, .slice none 0 0] := (Blk.mk wF wF.heap.size 39 #[.int .i64 0, .int .i64 0, .bool false, .int .i64 0, .int .i64 0, .slice none 0 0, .int .i64 0, .int .i64 0, .int .i64 0, .int .i64 0, .slice none 0 0] rfl)
          have sZ : Hid (((wF.alloc (.cells #[.int .i64 0, .int .i64 0, .bool false, .int .i64 0, .int .i64 0, .slice none 0 0, .int .i64 0, .int .i64 0, .int .i64 0, .int .i64 0, .slice none 0 0] 39))).heap.size = wF.heap.size + 1) := by unfold Hid; simp
          have nZ : New w16 ((wF.alloc (.cells #[.int .i64 0, .int .i64 0, .bool false, .int .i64 0, .int .i64 0, .slice none 0 0, .int .i64 0, .int .i64 0, .int .i64 0, .int .i64 0, .slice none 0 0] 39))) := nCF.trans alZ
          replace hO := hO.new alZ
          refine hK.out _ _ nZ (fun hHZ => ?_)
          simp only [Act.put, List.setIfInBounds_toArray, List.set_cons_zero, List.set_cons_succ]
          generalize (wF.alloc (.cells #[.int .i64 0, .int .i64 0, .bool false, .int .i64 0, .int .i64 0, .slice none 0 0, .int .i64 0, .int .i64 0, .int .i64 0, .int .i64 0, .slice none 0 0] 39)) = wZ at *
          obtain ⟨BZ, hBZ⟩ : ∃ BZ, BZ = wF.heap.size := ⟨_, rfl⟩
          rw [← hBZ] at bZ ⊢
          have hBw : w16.heap.size ≤ BZ := by have := nCF.size; omega
          have zZ : BZ < wZ.heap.size := bZ.lt
          have zZ2 : wF.heap.size ≤ wZ.heap.size := alZ.size
          have hBF : wF.heap.size ≤ BZ := by omega
          clear hBZ sZ
          refine hw_call 6 none rfl rfl (by kernel_rfl) (by rfl) (fun K hK => ?_)
          refine hw_store 39 (.tmp 13) (.tmp 79) rfl rfl BZ #[.int .i64 z1, .int .i64 id1, .bool up1, .int .i64 ro1, .int .i64 ep1, .slice A9 L.length c9, .int .i64 su1, .int .i64 ma1, .int .i64 ot1, .int .i64 co1, .slice S9 M.length s9] #[.int .i64 0, .int .i64 0, .bool false, .int .i64 0, .int .i64 0, .slice none 0 0, .int .i64 0, .int .i64 0, .int .i64 0, .int .i64 0, .slice none 0 0] rfl rfl bZ (by kernel_rfl) rfl (by kernel_rfl) ?_
          have bR := bZ.rowW #[.int .i64 z1, .int .i64 id1, .bool up1, .int .i64 ro1, .int .i64 ep1, .slice A9 L.length c9, .int .i64 su1, .int .i64 ma1, .int .i64 ot1, .int .i64 co1, .slice S9 M.length s9]
          have tR := Turn.rowW (Turn.refl (fun i => i = BZ) wZ) rfl #[.int .i64 z1, .int .i64 id1, .bool up1, .int .i64 ro1, .int .i64 ep1, .slice A9 L.length c9, .int .i64 su1, .int .i64 ma1, .int .i64 ot1, .int .i64 co1, .slice S9 M.length s9]
          have hOR := hO.turn tR (by intro j j1 j2 e; omega)
          have nR := nZ.before tR (by intro i hi e; omega)
          have zR := tR.size
          refine hK.out undef _ nR (fun hS2 => ?_)
          refine wpAnyH_done (by kernel_rfl) ?_ _
          generalize World.setRow _ _ _ = wR at *
          obtain ⟨rdR, lR, qR, -⟩ := hOR.rd
          go_wp2_with fail
          go_meet
          exact ⟨BZ, A9, c9, U9, S9, s9, M9, rfl, bR, hU, hM, rdR.up (by omega), lR, qR, nR, hBw⟩
        refine hw_step 5 (some 13) rfl rfl (by rfl) (fun K hK => ?_) ?_
        · skip
          go_simp
          have alZ : New wX ((wX.alloc (.cells #[.int .i64 0, .int .i64 0, .bool false, .int .i64 0, .int .i64 0, .slice none 0 0, .int .i64 0, .int .i64 0, .int .i64 0, .int .i64 0, .slice none 0 0] 39))) := ((New.refl wX).alloc (.cells #[.int .i64 0, .int .i64 0, .bool false, .int .i64 0, .int .i64 0, .slice none 0 0, .int .i64 0, .int .i64 0, .int .i64 0, .int .i64 0, .slice none 0 0] 39))
          have bZ : Blk ((wX.alloc (.cells #[.int .i64 0, .int .i64 0, .bool false, .int .i64 0, .int .i64 0, .slice none 0 0, .int .i64 0, .int .i64 0, .int .i64 0, .int .i64 0, .slice none 0 0] 39))) wX.heap.size 39 #[.int .i64 0, .int .i64 0, .bool false, .int .i64 0, .int .i64 0, .slice none 0 0, .int .i64 0, .int .i64 0, .int .i64 0, .int .i64 0, .slice none 0 0] := (Blk.mk wX wX.heap.size 39 #[.int .i64 0, .int .i64 0, .bool false, .int .i64 0, .int .i64 0, .slice none 0 0, .int .i64 0, .int .i64 0, .int .i64 0, .int .i64 0, .slice none 0 0] rfl)
          have sZ : Hid (((wX.alloc (.cells #[.int .i64 0, .int .i64 0, .bool false, .int .i64 0, .int .i64 0, .slice none 0 0, .int .i64 0, .int .i64 0, .int .i64 0, .int .i64 0, .slice none 0 0] 39))).heap.size = wX.heap.size + 1) := by unfold Hid; simp
          have nZ : New w16 ((wX.alloc (.cells #[.int .i64 0, .int .i64 0, .bool false, .int .i64 0, .int .i64 0, .slice none 0 0, .int .i64 0, .int .i64 0, .int .i64 0, .int .i64 0, .slice none 0 0] 39))) := nCX.trans alZ
          replace hoN := hoN.new alZ
          replace hoX := own_new hoX alZ
          refine hK.out _ _ nZ (fun hHZ => ?_)
          simp only [Act.put, List.setIfInBounds_toArray, List.set_cons_zero, List.set_cons_succ]
          generalize (wX.alloc (.cells #[.int .i64 0, .int .i64 0, .bool false, .int .i64 0, .int .i64 0, .slice none 0 0, .int .i64 0, .int .i64 0, .int .i64 0, .int .i64 0, .slice none 0 0] 39)) = wZ at *
          obtain ⟨BZ, hBZ⟩ : ∃ BZ, BZ = wX.heap.size := ⟨_, rfl⟩
          rw [← hBZ] at bZ ⊢
          have hBw : w16.heap.size ≤ BZ := by have := nCX.size; omega
          have zZ : BZ < wZ.heap.size := bZ.lt
          have zZ2 : wX.heap.size ≤ wZ.heap.size := alZ.size
          clear hBZ sZ
          refine hw_call 4 (some 79) rfl rfl (by kernel_rfl) (by rfl) (fun K hK => ?_)
          go_simp
          refine (hI gN VN gX _ (hw16.trans nZ) hVN hoN.lg.1 hoN.nl (BsAt.of_own hoX hzb)).mono ?_
          rintro e wF ⟨A9, c9, U9, S9, s9, M9, rfl, hU, hM, hO, hnF⟩
          have nCF := nZ.trans hnF
          have zF := hnF.size
          replace bZ := bZ.new hnF
          go_simp
          refine hK.out _ _ nCF (fun hHF => ?_)
          simp only [Act.put, List.setIfInBounds_toArray, List.set_cons_zero, List.set_cons_succ]
          refine hw_call 6 none rfl rfl (by kernel_rfl) (by rfl) (fun K hK => ?_)
          refine hw_store 39 (.tmp 13) (.tmp 79) rfl rfl BZ #[.int .i64 z1, .int .i64 id1, .bool up1, .int .i64 ro1, .int .i64 ep1, .slice A9 L.length c9, .int .i64 su1, .int .i64 ma1, .int .i64 ot1, .int .i64 co1, .slice S9 M.length s9] #[.int .i64 0, .int .i64 0, .bool false, .int .i64 0, .int .i64 0, .slice none 0 0, .int .i64 0, .int .i64 0, .int .i64 0, .int .i64 0, .slice none 0 0] rfl rfl bZ (by kernel_rfl) rfl (by kernel_rfl) ?_
          have bR := bZ.rowW #[.int .i64 z1, .int .i64 id1, .bool up1, .int .i64 ro1, .int .i64 ep1, .slice A9 L.length c9, .int .i64 su1, .int .i64 ma1, .int .i64 ot1, .int .i64 co1, .slice S9 M.length s9]
          have tR := Turn.rowW (Turn.refl (fun i => i = BZ) wF) rfl #[.int .i64 z1, .int .i64 id1, .bool up1, .int .i64 ro1, .int .i64 ep1, .slice A9 L.length c9, .int .i64 su1, .int .i64 ma1, .int .i64 ot1, .int .i64 co1, .slice S9 M.length s9]
          have hOR := hO.turn tR (by intro j j1 j2 e; omega)
          have nR := nCF.before tR (by intro i hi e; omega)
          have zR := tR.size
          refine hK.out undef _ nR (fun hS2 => ?_)
          refine wpAnyH_done (by kernel_rfl) ?_ _
          generalize World.setRow _ _ _ = wR at *
          obtain ⟨rdR, lR, qR, -⟩ := hOR.rd
          go_wp2_with fail
          go_meet
          exact ⟨BZ, A9, c9, U9, S9, s9, M9, rfl, bR, hU, hM, rdR.up (by omega), lR, qR, nR, hBw⟩
        exact fun j hj => by cases hj
      refine hw_step 5 (some 13) rfl rfl (by rfl) (fun K hK => ?_) ?_
      · skip
        go_simp
        have alZ : New wN ((wN.alloc (.cells #[.int .i64 0, .int .i64 0, .bool false, .int .i64 0, .int .i64 0, .slice none 0 0, .int .i64 0, .int .i64 0, .int .i64 0, .int .i64 0, .slice none 0 0] 39))) := ((New.refl wN).alloc (.cells #[.int .i64 0, .int .i64 0, .bool false, .int .i64 0, .int .i64 0, .slice none 0 0, .int .i64 0, .int .i64 0, .int .i64 0, .int .i64 0, .slice none 0 0] 39))
        have bZ : Blk ((wN.alloc (.cells #[.int .i64 0, .int .i64 0, .bool false, .int .i64 0, .int .i64 0, .slice none 0 0, .int .i64 0, .int .i64 0, .int .i64 0, .int .i64 0, .slice none 0 0] 39))) wN.heap.size 39 #[.int .i64 0, .int .i64 0, .bool false, .int .i64 0, .int .i64 0, .slice none 0 0, .int .i64 0, .int .i64 0, .int .i64 0, .int .i64 0, .slice none 0 0] := (Blk.mk wN wN.heap.size 39 #[.int .i64 0, .int .i64 0, .bool false, .int .i64 0, .int .i64 0, .slice none 0 0, .int .i64 0, .int .i64 0, .int .i64 0, .int .i64 0, .slice none 0 0] rfl)
        have sZ : Hid (((wN.alloc (.cells #[.int .i64 0, .int .i64 0, .bool false, .int .i64 0, .int .i64 0, .slice none 0 0, .int .i64 0, .int .i64 0, .int .i64 0, .int .i64 0, .slice none 0 0] 39))).heap.size = wN.heap.size + 1) := by unfold Hid; simp
        have nZ : New w16 ((wN.alloc (.cells #[.int .i64 0, .int .i64 0, .bool false, .int .i64 0, .int .i64 0, .slice none 0 0, .int .i64 0, .int .i64 0, .int .i64 0, .int .i64 0, .slice none 0 0] 39))) := nCN.trans alZ
        replace hoN := hoN.new alZ
        refine hK.out _ _ nZ (fun hHZ => ?_)
        simp only [Act.put, List.setIfInBounds_toArray, List.set_cons_zero, List.set_cons_succ]
        generalize (wN.alloc (.cells #[.int .i64 0, .int .i64 0, .bool false, .int .i64 0, .int .i64 0, .slice none 0 0, .int .i64 0, .int .i64 0, .int .i64 0, .int .i64 0, .slice none 0 0] 39)) = wZ at *
        obtain ⟨BZ, hBZ⟩ : ∃ BZ, BZ = wN.heap.size := ⟨_, rfl⟩
        rw [← hBZ] at bZ ⊢
        have hBw : w16.heap.size ≤ BZ := by have := nCN.size; omega
        have zZ : BZ < wZ.heap.size := bZ.lt
        have zZ2 : wN.heap.size ≤ wZ.heap.size := alZ.size
        clear hBZ sZ
        refine hw_call 3 (some 78) rfl rfl (by kernel_rfl) (by rfl) (fun K hK => ?_)
        go_simp
        refine (toMl_any kd tgt me at1 pr has e1 k1 p1 x m d xs _ (hx.new (hw16.trans nZ)) hX HM1.out).mono ?_
        rintro e wX ⟨gX, rfl, -, hoX, hnX⟩
        have nCX := nZ.trans hnX
        have zX := hnX.size
        replace hoN := hoN.new hnX
        replace bZ := bZ.new hnX
        go_simp
        refine hK.out _ _ nCX (fun hHX => ?_)
        simp only [Act.put, List.setIfInBounds_toArray, List.set_cons_zero, List.set_cons_succ]
        refine hw_call 4 (some 79) rfl rfl (by kernel_rfl) (by rfl) (fun K hK => ?_)
        go_simp
        refine (hI gN VN gX _ (hw16.trans nCX) hVN hoN.lg.1 hoN.nl (BsAt.of_own hoX hzb)).mono ?_
        rintro e wF ⟨A9, c9, U9, S9, s9, M9, rfl, hU, hM, hO, hnF⟩
        have nCF := nCX.trans hnF
        have zF := hnF.size
        replace bZ := bZ.new hnF
        go_simp
        refine hK.out _ _ nCF (fun hHF => ?_)
        simp only [Act.put, List.setIfInBounds_toArray, List.set_cons_zero, List.set_cons_succ]
        refine hw_call 6 none rfl rfl (by kernel_rfl) (by rfl) (fun K hK => ?_)
        refine hw_store 39 (.tmp 13) (.tmp 79) rfl rfl BZ #[.int .i64 z1, .int .i64 id1, .bool up1, .int .i64 ro1, .int .i64 ep1, .slice A9 L.length c9, .int .i64 su1, .int .i64 ma1, .int .i64 ot1, .int .i64 co1, .slice S9 M.length s9] #[.int .i64 0, .int .i64 0, .bool false, .int .i64 0, .int .i64 0, .slice none 0 0, .int .i64 0, .int .i64 0, .int .i64 0, .int .i64 0, .slice none 0 0] rfl rfl bZ (by kernel_rfl) rfl (by kernel_rfl) ?_
        have bR := bZ.rowW #[.int .i64 z1, .int .i64 id1, .bool up1, .int .i64 ro1, .int .i64 ep1, .slice A9 L.length c9, .int .i64 su1, .int .i64 ma1, .int .i64 ot1, .int .i64 co1, .slice S9 M.length s9]
        have tR := Turn.rowW (Turn.refl (fun i => i = BZ) wF) rfl #[.int .i64 z1, .int .i64 id1, .bool up1, .int .i64 ro1, .int .i64 ep1, .slice A9 L.length c9, .int .i64 su1, .int .i64 ma1, .int .i64 ot1, .int .i64 co1, .slice S9 M.length s9]
        have hOR := hO.turn tR (by intro j j1 j2 e; omega)
        have nR := nCF.before tR (by intro i hi e; omega)
        have zR := tR.size
        refine hK.out undef _ nR (fun hS2 => ?_)
        refine wpAnyH_done (by kernel_rfl) ?_ _
        generalize World.setRow _ _ _ = wR at *
        obtain ⟨rdR, lR, qR, -⟩ := hOR.rd
        go_wp2_with fail
        go_meet
        exact ⟨BZ, A9, c9, U9, S9, s9, M9, rfl, bR, hU, hM, rdR.up (by omega), lR, qR, nR, hBw⟩
      exact fun j hj => by cases hj
    refine hw_step 5 (some 13) rfl rfl (by rfl) (fun K hK => ?_) ?_
    · skip
      go_simp
      have alZ : New w16 ((w16.alloc (.cells #[.int .i64 0, .int .i64 0, .bool false, .int .i64 0, .int .i64 0, .slice none 0 0, .int .i64 0, .int .i64 0, .int .i64 0, .int .i64 0, .slice none 0 0] 39)).drew) := ((New.refl w16).alloc (.cells #[.int .i64 0, .int .i64 0, .bool false, .int .i64 0, .int .i64 0, .slice none 0 0, .int .i64 0, .int .i64 0, .int .i64 0, .int .i64 0, .slice none 0 0] 39)).drew
      have bZ : Blk ((w16.alloc (.cells #[.int .i64 0, .int .i64 0, .bool false, .int .i64 0, .int .i64 0, .slice none 0 0, .int .i64 0, .int .i64 0, .int .i64 0, .int .i64 0, .slice none 0 0] 39)).drew) w16.heap.size 39 #[.int .i64 0, .int .i64 0, .bool false, .int .i64 0, .int .i64 0, .slice none 0 0, .int .i64 0, .int .i64 0, .int .i64 0, .int .i64 0, .slice none 0 0] := (Blk.mk w16 w16.heap.size 39 #[.int .i64 0, .int .i64 0, .bool false, .int .i64 0, .int .i64 0, .slice none 0 0, .int .i64 0, .int .i64 0, .int .i64 0, .int .i64 0, .slice none 0 0] rfl).new ((New.refl _).drew)
      have sZ : Hid (((w16.alloc (.cells #[.int .i64 0, .int .i64 0, .bool false, .int .i64 0, .int .i64 0, .slice none 0 0, .int .i64 0, .int .i64 0, .int .i64 0, .int .i64 0, .slice none 0 0] 39)).drew).heap.size = w16.heap.size + 1) := by unfold Hid; simp
      have nZ : New w16 ((w16.alloc (.cells #[.int .i64 0, .int .i64 0, .bool false, .int .i64 0, .int .i64 0, .slice none 0 0, .int .i64 0, .int .i64 0, .int .i64 0, .int .i64 0, .slice none 0 0] 39)).drew) := alZ
      refine hK.out _ _ nZ (fun hHZ => ?_)
      simp only [Act.put, List.setIfInBounds_toArray, List.set_cons_zero, List.set_cons_succ]
      generalize (w16.alloc (.cells #[.int .i64 0, .int .i64 0, .bool false, .int .i64 0, .int .i64 0, .slice none 0 0, .int .i64 0, .int .i64 0, .int .i64 0, .int .i64 0, .slice none 0 0] 39)).drew = wZ at *
      obtain ⟨BZ, hBZ⟩ : ∃ BZ, BZ = w16.heap.size := ⟨_, rfl⟩
      rw [← hBZ] at bZ ⊢
      have hBw : w16.heap.size ≤ BZ := by omega
      have zZ : BZ < wZ.heap.size := bZ.lt
      have zZ2 : w16.heap.size ≤ wZ.heap.size := alZ.size
      clear hBZ sZ
      refine hw_call 1 (some 76) rfl rfl (by kernel_rfl) (by rfl) (fun K hK => ?_)
      go_simp
      refine (toNd_any id up ro ep su ma ot co A n c V _ (h.new (hw16.trans nZ)) hn hT).mono ?_
      rintro e wN ⟨gN, VN, rfl, hVN, hoN, hnN⟩
      have nCN := nZ.trans hnN
      have zN := hnN.size
      replace bZ := bZ.new hnN
      go_simp
      refine hK.out _ _ nCN (fun hHN => ?_)
      simp only [Act.put, List.setIfInBounds_toArray, List.set_cons_zero, List.set_cons_succ]
      refine hw_call 3 (some 78) rfl rfl (by kernel_rfl) (by rfl) (fun K hK => ?_)
      go_simp
      refine (toMl_any kd tgt me at1 pr has e1 k1 p1 x m d xs _ (hx.new (hw16.trans nCN)) hX HM1.out).mono ?_
      rintro e wX ⟨gX, rfl, -, hoX, hnX⟩
      have nCX := nCN.trans hnX
      have zX := hnX.size
      replace hoN := hoN.new hnX
      replace bZ := bZ.new hnX
      go_simp
      refine hK.out _ _ nCX (fun hHX => ?_)
      simp only [Act.put, List.setIfInBounds_toArray, List.set_cons_zero, List.set_cons_succ]
      refine hw_call 4 (some 79) rfl rfl (by kernel_rfl) (by rfl) (fun K hK => ?_)
      go_simp
      refine (hI gN VN gX _ (hw16.trans nCX) hVN hoN.lg.1 hoN.nl (BsAt.of_own hoX hzb)).mono ?_
      rintro e wF ⟨A9, c9, U9, S9, s9, M9, rfl, hU, hM, hO, hnF⟩
      have nCF := nCX.trans hnF
      have zF := hnF.size
      replace bZ := bZ.new hnF
      go_simp
      refine hK.out _ _ nCF (fun hHF => ?_)
      simp only [Act.put, List.setIfInBounds_toArray, List.set_cons_zero, List.set_cons_succ]
      refine hw_call 6 none rfl rfl (by kernel_rfl) (by rfl) (fun K hK => ?_)
      refine hw_store 39 (.tmp 13) (.tmp 79) rfl rfl BZ #[.int .i64 z1, .int .i64 id1, .bool up1, .int .i64 ro1, .int .i64 ep1, .slice A9 L.length c9, .int .i64 su1, .int .i64 ma1, .int .i64 ot1, .int .i64 co1, .slice S9 M.length s9] #[.int .i64 0, .int .i64 0, .bool false, .int .i64 0, .int .i64 0, .slice none 0 0, .int .i64 0, .int .i64 0, .int .i64 0, .int .i64 0, .slice none 0 0] rfl rfl bZ (by kernel_rfl) rfl (by kernel_rfl) ?_
      have bR := bZ.rowW #[.int .i64 z1, .int .i64 id1, .bool up1, .int .i64 ro1, .int .i64 ep1, .slice A9 L.length c9, .int .i64 su1, .int .i64 ma1, .int .i64 ot1, .int .i64 co1, .slice S9 M.length s9]
      have tR := Turn.rowW (Turn.refl (fun i => i = BZ) wF) rfl #[.int .i64 z1, .int .i64 id1, .bool up1, .int .i64 ro1, .int .i64 ep1, .slice A9 L.length c9, .int .i64 su1, .int .i64 ma1, .int .i64 ot1, .int .i64 co1, .slice S9 M.length s9]
      have hOR := hO.turn tR (by intro j j1 j2 e; omega)
      have nR := nCF.before tR (by intro i hi e; omega)
      have zR := tR.size
      refine hK.out undef _ nR (fun hS2 => ?_)
      refine wpAnyH_done (by kernel_rfl) ?_ _
      generalize World.setRow _ _ _ = wR at *
      obtain ⟨rdR, lR, qR, -⟩ := hOR.rd
      go_wp2_with fail
      go_meet
      exact ⟨BZ, A9, c9, U9, S9, s9, M9, rfl, bR, hU, hM, rdR.up (by omega), lR, qR, nR, hBw⟩
    exact fun j hj => by cases hj
  case rest =>
  obtain ⟨B9, A9, c9, U9, S9, s9, M9, rfl, b9, hU9, hM9, h17r, l9, q9, hn17, hB9⟩ := hcut
  have b317 := b316.new hn17
  have b617 := b616.new hn17
  have s17r := s16r.new hn17
  have m17 := m16.new hn17
  have n17 := n16.new hn17
  have hw17 := hw16.trans hn17
  clear bA16 bB16 b316 b616 s16r m16 n16 hn17
  have c3' := b317.cells
  have c9' := b9.cells
  go_wp2_with fail
  refine (eqNR_any z1 id1 up1 ro1 ep1 su1 ma1 ot1 co1 A9 A3 S9 S3 L.length c9 c3 M.length s9 s3 U9 U3 M9 M3 _ h17r.lg s17r.lg (hU9.trans hU3.symm) l9 ?lm3 h17r.sd s17r.sd (hM9.trans hM3.symm) q9).mono ?_
  case lm3 => have h1 := totK_len U9; have h2 := hLT U9 hU9; omega
  rintro e w18 ⟨rfl, hn18⟩
  have c5' := (b617.new hn18).cells
  have m18 := m17.new hn18
  have n18 := n17.new hn18
  have hw18 := hw17.trans hn18
  clear b317 b617 b9 c3' c9' s17r h17r m17 n17
  go_wp2_with fail
  refine (heldNR_any z1 id1 up1 ro1 ep1 su1 ma1 ot1 co1 A5 S5 L.length c5 M.length s5 U5 M5 _ m18 l5' (hLT U5 hU5) hlU n18 q5).mono ?_
  rintro e w19 ⟨rfl, hn19⟩
  rw [HEE.out]
  clear m18 n18 c5'
  go_wp2
  go_ret
  exact ⟨rfl, hw18.trans hn19⟩

theorem ahm_all (id : Int) (up : Bool) (ro ep su ma ot co : Int) (A : Option Addr) (n c : Nat) (V : List EkV) (kd tgt me at1 pr : Int) (has : Bool) (e1 k1 p1 : Int) (x : Option Addr) (m d : Nat) (xs : List Int) (w : World) (h : EkCame w A V) (hn : V.length = n) (hm : n ≤ maxLen) (hx : BsAt w x xs) (hX : xs.length = m) (hml : m ≤ maxLen) :
    Calls Try.prog 3 #[.agg #[.int .i64 id, .bool up, .int .i64 ro, .int .i64 ep, .slice A n c, .int .i64 su, .int .i64 ma, .int .i64 ot, .int .i64 co], .agg #[.int .i64 kd, .int .i64 tgt, .int .i64 me, .int .i64 at1, .int .i64 pr, .bool has, .int .i64 e1, .int .i64 k1, .int .i64 p1, .slice x m d]] w fun e w' => e = .returned (.bool true) ∧ New w w' := by
  by_cases hT : totK V ≤ 1048576
  case neg => exact ahm_big id up ro ep su ma ot co A n c V kd tgt me at1 pr has e1 k1 p1 x m d xs w h hn hm hml (.inl (by omega))
  by_cases hm1 : m ≤ 1048576
  case neg => exact ahm_big id up ro ep su ma ot co A n c V kd tgt me at1 pr has e1 k1 p1 x m d xs w h hn hm hml (.inr (by omega))
  have hm2 : n ≤ 2097152 := by have := totK_len V; omega
  have hl : ∀ V' : List EkV, V'.map EkV.r = V.map EkV.r → V'.length = n := by intro V' hV; have := congrArg List.length hV; simp at this; omega
  obtain ⟨r, hr⟩ : ∃ r, hearF id up ro ep su ma ot co (V.map EkV.r) kd tgt me at1 pr has ⟨e1, k1, p1, xs⟩ = r := ⟨_, rfl⟩
  refine ahm_walk id up ro ep su ma ot co A n c V kd tgt me at1 pr has e1 k1 p1 x m d xs r.z r.id r.up r.ro r.ep r.su r.ma r.ot r.co r.L r.M w h hn hT hx hX hm1 (fun g V' u W _ hV hg hN hu => ?_) (fun g V' u W _ hV hg hN hu => ?_) ?_
  · have := iHear_any id up ro ep su ma ot co _ n n V' kd tgt me at1 pr has e1 k1 p1 _ m m xs W hg hN (hl V' hV) hm2 hu hX (by intro e; cases e) hm1
    rw [hV, hr] at this
    exact this
  · have := sHear_any id up ro ep su ma ot co _ n n V' kd tgt me at1 pr has e1 k1 p1 _ m m xs W hg hN (hl V' hV) hm2 hu hX (by intro e; cases e) hm1
    rw [hV, hr] at this
    exact this
  · intro U hU
    have h0 : ∀ U : List EkV, U.map EkV.r = [] → totK U ≤ 2097152 := by intro U hU; obtain rfl : U = [] := (by simpa using hU); simp [totK]
    rw [← hr] at hU
    unfold hearF at hU
    by_cases c1 : ¬ uF up (nF id up ro ep su ma ot co (V.map EkV.r).length (V.map EkV.r)) = 0
    · rw [if_pos c1] at hU; exact h0 U hU
    rw [if_neg c1] at hU
    by_cases c2 : ¬ mlF id kd tgt me at1 pr has e1 k1 p1 xs.length = 0
    · rw [if_pos c2] at hU; exact h0 U hU
    rw [if_neg c2] at hU
    have hlen : xs.length ≤ 1048500 := by have := mlF_len (Decidable.not_not.1 c2); omega
    by_cases c3 : me < ep
    · rw [if_pos c3] at hU; rw [totK_map U V hU]; omega
    rw [if_neg c3] at hU
    by_cases c4 : ep < me
    · rw [if_pos c4] at hU; exact hmF_tot _ _ _ _ _ _ _ _ V _ _ _ _ _ hT hlen U hU
    · rw [if_neg c4] at hU; exact hmF_tot _ _ _ _ _ _ _ _ V _ _ _ _ _ hT hlen U hU

set_option maxRecDepth 100000 in
theorem ahm_lifted (os : Os) (started : os.Started) (H : Type) (enc : TypeId × Value → H) :
    ReturnsInHanded {} Try.checked os 3 .any (Rows.fnExactHearMailSpec.pre6 enc Try.prog Try.f3 Rows.fnExactHearMailRow.domain false) (Rows.fnExactHearMailSpec.post enc Try.prog Try.f3 false true false false) := by
  refine returnsInHanded_of_change (C := Try.checked) own started (by kernel_rfl) Try.func3
    (ChangeSpec.witness6 (enc := enc) (C := Try.checked) false ⟨#[], #[.agg #[.int .i64 0, .bool false, .int .i64 0, .int .i64 0, .slice none 0 0, .int .i64 0, .int .i64 0, .int .i64 0, .int .i64 0], .agg #[.int .i64 0, .int .i64 0, .int .i64 0, .int .i64 0, .int .i64 0, .bool false, .int .i64 0, .int .i64 0, .int .i64 0, .slice none 0 0]], []⟩ 8 (by kernel_rfl) (by kernel_rfl) (by kernel_rfl) (by kernel_rfl)) ?_
  intro W base args ds gs before hval0 hW hcnd _
  have hval : ∀ (j : Nat) t v, Try.f3.params[j]? = some t → args[j]? = some v → Value.okWide Try.prog W .any base t v := hval0
  have hW' := hW
  obtain ⟨p, q, hA0, hV, rfl, hfz, hnd⟩ := hW
  have hA : DataW.TrodAll enc Try.prog W 0 (fun _ => true) true Try.f3.params.toList args.toList ds p := hA0
  rw [Try.params3] at hA hval
  obtain ⟨v0, vs0, d0, ds0, p0, q0, hargs0, rfl, rfl, h0, r0⟩ := trodAll_cons hA
  obtain ⟨v1, vs1, d1, ds1, p1, q1, hargs1, rfl, rfl, h1, r1⟩ := trodAll_cons r0
  obtain ⟨rfl, rfl, rfl⟩ := trodAll_nil r1
  obtain rfl : args = #[v0, v1] := by cases args; simp_all
  obtain ⟨rfl, rfl⟩ := trodVars_none hV
  have k0 := h0
  have lt0 : ∀ x ∈ p0, x.block < W.heap.size := by obtain ⟨m, hm⟩ := k0; exact DataW.trod_lt m _ _ _ hm
  have k1 := h1
  have lt1 : ∀ x ∈ p1, x.block < W.heap.size := by obtain ⟨m, hm⟩ := k1; exact DataW.trod_lt m _ _ _ hm
  obtain ⟨id0, up0, ro0, ep0, su0, ma0, ot0, co0, A0, n0, c0, V0, rfl, hV0, hl0, hm0, b1, b2, b3, b4, b5, b6, b7⟩ := open_node (hval 0 24 v0 rfl rfl) h0
  obtain ⟨k01, t01, m01, a01, r01, b01, e01, i01, p01, x01, n01, d01, z01, rfl, hx1, hz1, hm01⟩ := open_mail (hval 1 31 v1 rfl rfl) h1
  clear hA0 hval0
  refine (ahm_all id0 up0 ro0 ep0 su0 ma0 ot0 co0 A0 n0 c0 V0 k01 t01 m01 a01 r01 b01 e01 i01 p01 x01 n01 d01 z01 W hV0 hl0 hm0 hx1 hz1 hm01).mono fun e W' ⟨he, new⟩ => ?_
  have bel := new.below
  subst he
  exact ⟨_, rfl, _, _, _, [], _, [], hW', trodAll_mk1 (shut_bool Try.underlying4 _), (trodAll_cons_mk (Below.trod laidOut (by kernel_rfl) (of_decide_eq_true (by kernel_rfl)) k0 bel lt0) (trodAll_cons_mk (Below.trod laidOut (by kernel_rfl) (of_decide_eq_true (by kernel_rfl)) k1 bel lt1) trodAll_mk0)), rfl, bel.frame _, fun h => by cases h⟩

theorem ahm_holds : Rows.FnExactHearMailSaid :=
  OpenClaim.holds_of_wide 3 Try.f3 rfl rfl rfl rfl rfl rfl rfl ⟨rfl, rfl, rfl, rfl, rfl⟩ rfl rfl rfl rfl rfl (by kernel_rfl) Try.func3 (by kernel_rfl)
    (of_decide_eq_true (by kernel_rfl)) (by unfold Func.isWrapper; first | (rw [if_pos (by decide +kernel)]; kernel_rfl) | (rw [if_neg (by decide +kernel)]; exact ⟨rfl, rfl⟩))
    (fun os started H enc _ => ahm_lifted os started H enc)

end Go.Proofs.Ythnigcalboobgaa
