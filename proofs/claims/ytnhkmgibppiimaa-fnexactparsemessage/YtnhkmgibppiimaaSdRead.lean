/- What is proved here: what the model's reading of prefixes out of bytes answers, for every list of at most 1048576 bytes, three a prefix. -/
import Derived.Test.YtnhkmgibppiimaaRdImpl
import Derived.Deep.RegionLaw
namespace Go.Proofs.Ytnhkmgibppiimaa
open Go.RowKit Go.Sort
set_option linter.unusedVariables false

section
variable {P : Program} {t e : TypeId} {i : TypeInfo}
/-- Appending one prefix, at a drawn step, onto a list that the call owns. -/
theorem step_apR (w : World) {ops : Array Oper} {o : Oper} {a : Act} {K : Act → World → Prop} {Q : Exit → Act → World → Prop} {E : Prop} (hgd : o.guard = none) (s x : Operand)
    (ho : o.op = .call { callee := .builtin .append, args := #[s, x], argTypes := #[t, t] }) (base : Nat) (ht : P.underlying t = some (.slice e)) (hi : P.info? e = some i) (hz : i.zero = some (.agg #[.int .i64 0, .int .i64 0])) (hs : i.size = 2) (hb : i.bytes = 16)
    (v : Value) (n : Nat) (xs : List Value) (hsv : a.eval s = v) (hown : w.ownsRow base e 2 v n xs)
    (ad : Addr) (p q : Int) (hxv : a.eval x = .slice (some ad) 1 1) (h0 : w.cell? (ad.add 0) = some (.int .i64 p)) (h1 : w.cell? (ad.add 1) = some (.int .i64 q))
    (hle : n + 1 ≤ 4194304) (hbase : base ≤ w.heap.size)
    (h : ∀ v' w', w'.ownsRow base e 2 v' (n + 1) (xs ++ [.int .i64 p, .int .i64 q]) → w.grownBy w' v.ownBlock → K (a.put o.dst v') w') :
    if Region.wanted o (yielded ops a.tmps) = true then Oper.wp P o a w K Q else E := by
  have hw : Region.wanted o (yielded ops a.tmps) = true := by simp [Region.wanted, hgd]
  rw [if_pos hw]
  have hnews : ∀ j y, [Value.int .i64 p, Value.int .i64 q][j]? = some y → w.cell? (ad.add j) = some y := by
    intro j y hy
    match j, hy with
    | 0, hy => simp at hy; subst hy; exact h0
    | 1, hy => simp at hy; subst hy; exact h1
  obtain ⟨v', w', hr, h2, h3, _, _⟩ := run_append_own_at (P := P) w base t o.type e i (.agg #[.int .i64 0, .int .i64 0]) 2 16 ht hi hz hs hb rfl (by decide) v n xs hown ad 1 1 [.int .i64 p, .int .i64 q] rfl hnews (by simp [Value.oneCell']) (by unfold maxLen; omega) (by omega) hbase
  unfold Oper.wp execOp
  simp only [ho, resolve, invoke, builtin, Sem.run_bind, Sem.run_pure, Result.andThen_ok, List.map_toArray, List.map_cons, List.map_nil, hsv, hxv, hr]
  exact h v' w' h2 h3
end

set_option maxRecDepth 100000 in
set_option maxHeartbeats 1600000 in
theorem l3Read_any (a : Option Addr) (k c : Nat) (zs : List Int) (w : World) (h : BsAt w a zs) (hn : zs.length = k * 3) (hm : k * 3 ≤ 1048576) :
    Calls Try.prog 66 #[.slice a (k * 3) c] w fun e w' => ∃ v, e = .returned v ∧ OwQ w' w.heap.size v (rdP zs) ∧ New w w' := by
  obtain ⟨iP, hi, hz0, hz1, hz2⟩ := info_parts Try.infoPx
  have HN : Hid (zs.length = k * 3) := hn
  have HL : Hid ((rdP zs).length = k) := rdP_len k zs hn
  have hw := (New.refl w).alloc (.cells #[] 86)
  have hlit : (w.alloc (.cells #[] 86)).ownsRow w.heap.size 86 2 (.slice (some ⟨w.heap.size, 0, none⟩) 0 0) 0 [] := ⟨rfl, .inr ⟨w.heap.size, 0, #[], rfl, Nat.le_refl _, heap_alloc_new w _, Nat.le_refl _, by decide, rfl, rfl⟩⟩
  clear hn
  go_enter Try.func66, Try.ntmps66
  go_wp2
  go_loopw [3, 4] (fun s i wr => ∃ (j : Nat) (v : Value), Hid (v = s) ∧ j ≤ k ∧ i = .int .i64 ((j * 3 : Nat) : Int) ∧ wr.ownsRow w.heap.size 86 2 v j (cellsP (rdP (zs.take (j * 3)))) ∧ New w wr) (fun _ i _ => k * 3 - (intOf i).toNat)
  case atStart => exact ⟨0, _, rfl, Nat.zero_le _, rfl, hlit, hw⟩
  case round =>
    clear hlit hw
    obtain ⟨j, v, hv, hj, rfl, ho, hnw⟩ := hrel
    have hv' := hv.out
    subst hv'
    clear hv
    by_cases hlt : j < k
    · obtain ⟨b, off, z0, ha, e0, c0, l0, u0⟩ := (h.new hnw).at (j * 3) (by rw [HN.out]; omega)
      have ha' := ha
      subst ha'
      obtain ⟨b1, off1, z1, ha1, e1, c1, l1, u1⟩ := (h.new hnw).at (j * 3 + 1) (by rw [HN.out]; omega)
      obtain ⟨b2, off2, z2, ha2, e2, c2, l2, u2⟩ := (h.new hnw).at (j * 3 + 2) (by rw [HN.out]; omega)
      simp only [Option.some.injEq, Addr.mk.injEq, and_true] at ha2
      obtain ⟨rfl, rfl⟩ := ha2
      have hnum := numAt_two e0 e1
      have hT : Hid (rdP (zs.take ((j + 1) * 3)) = rdP (zs.take (j * 3)) ++ [(z0 * 256 + z1, z2)]) := by
        unfold Hid
        rw [show (j + 1) * 3 = j * 3 + 3 by omega, take3 e0 e1 e2]
        exact rdP_snoc j _ _ _ _ (by rw [List.length_take, HN.out]; omega)
      have hwz : IntKind.i64.wrap z2 = z2 := by simp [IntKind.wrap, IntKind.signed, IntKind.bits]; omega
      have hwt : IntKind.i64.wrap ((j : Int) * 3 + 2) = (j : Int) * 3 + 2 := by simp [IntKind.wrap, IntKind.signed, IntKind.bits]; omega
      have htn : ((j : Int) * 3 + 2).toNat = j * 3 + 2 := by omega
      have hb0 : 0 ≤ (j : Int) * 3 + 2 := by omega
      have hb1 : (j : Int) * 3 + 2 < (k : Int) * 3 := by omega
      have hlt3 : ((j * 3 : Nat) : Int) + 3 ≤ ((k * 3 : Nat) : Int) := by omega
      have hblk := own_blk ho
      have hsz := hnw.size
      generalize hA : z0 * 256 + z1 = A at *
      have HA : Hid (numAt zs (j * 3) 2 = A) := hnum
      have hbn := h.new hnw
      clear e0 e1 e2 ha ha1 c0 c1 hnum hA
      go_wp2_with fail
      go_region_law (first
        | (refine step_apR _ rfl (.tmp 13) (.tmp 24) rfl w.heap.size Try.underlying26 hi hz0 hz1 hz2 v j _ rfl ((own_turnQ ho N1).alloc _) ⟨_, 0, none⟩ A z2 rfl (by simp [Addr.add]) (by simp [Addr.add]) (by omega) (by first | omega | (simp; omega)) ?_; intro v' w3 ho3 hgr3)
        | (go_simp; go_at_call 43; refine (take_any _ (k * 3) c (j * 3) 2 zs _ (hbn.new ((New.refl _).drew)) HN.out hm (by omega) (by omega)).mono ?_; rintro e w1 ⟨rfl, hw1⟩; (rw [HA.out]); have N1 : New wr w1 := (by rw [hw1]; exact (New.refl _).drew); have c2' : w1.cell? ⟨b, off + (j * 3 + 2), none⟩ = some (.int .u8 z2) := (by rw [hw1]; exact c2); have s1 := N1.size; clear hw1))
      all_goals
        have N3 : New w w3 := ((hnw.trans N1).alloc _).grow hgr3 hblk
        have hrow : w3.ownsRow w.heap.size 86 2 v' (j + 1) (cellsP (rdP (zs.take ((j + 1) * 3)))) := by rw [hT.out, cellsP_append]; exact ho3
        clear ho3 hgr3 ho hbn
        go_wp2
        go_roundw
        case rel => exact ⟨j + 1, _, rfl, by omega, by go_num, hrow, N3⟩
        case measure => simp [intOf]; omega
    · obtain rfl : j = k := by omega
      go_wp2
      go_ret
      rw [List.take_of_length_le (by rw [HN.out]; omega)] at ho
      exact ⟨_, rfl, OwQ.of_own ho HL.out, hnw⟩

end Go.Proofs.Ytnhkmgibppiimaa
