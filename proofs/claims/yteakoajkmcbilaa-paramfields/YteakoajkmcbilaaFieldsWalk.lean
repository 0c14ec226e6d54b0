/-
  The walk of ParamFields: it returns true for every input.
-/
import Derived.Test.YteakoajkmcbilaaPuts
import Derived.Test.YteakoajkmcbilaaSame
namespace Go.Proofs.Yteakoajkmcbilaa
open Go.RowKit Go.ChangeShapes
set_option linter.unusedVariables false
namespace LW
open Words
set_option maxRecDepth 20000 in
set_option maxHeartbeats 4000000 in
theorem fields (kd fld oth v : Int) (a : Option Addr) (cap : Nat) (zs : List Int) (w : World) (hz : Byt zs) (hr : Row w a zs) (hn : a = none → cap = 0) (hm : zs.length ≤ 140737488351232) (v0 : 0 ≤ v) (v1 : v < 18446744073709551616) :
    Calls Try.prog 8 #[.agg #[.int .i64 kd, .slice a zs.length cap, .int .i64 fld, .int .i64 oth, .int .u64 v]] w fun e w' => e = .returned (.bool true) ∧ Below w.heap.size w w' := by
  obtain ⟨i0, hi, hz0, hz1, hz2⟩ := info_parts info5
  have g1 := fun a' cap' W (h : Row W a' zs) => get kd fld a' cap' zs W hz h
  have g2 := fun W (h : Row W a zs) => rget kd fld a cap zs W hz h
  have p1 := fun a' cap' W (h : Row W a' zs) hn' => put kd fld a' cap' zs v W h hn' v0 v1
  have p2 := fun W (h : Row W a zs) => rput kd fld a cap zs v W hz h hn v0 v1
  have hpl : (pL kd fld zs v).length ≤ maxLen := by
    unfold pL
    split
    · rename_i h
      have hcf : cf kd zs.length fld = 0 := by
        unfold pE at h
        split at h
        · assumption
        · exact h
      obtain ⟨hk, hlen, h1, h9, _⟩ := cf_zero hcf
      obtain ⟨_, _, _, _, hfit⟩ := fits kd fld hk h1 h9
      rw [ly_length _ _ _ _ (by omega)]
      unfold maxLen; omega
    · simp [maxLen]
  have sm := fun a1 a2 c1 c2 W h1 h2 => same a1 a2 c1 c2 (pL kd fld zs v) (pL kd fld zs v) W h1 h2 hpl hpl
  rw [show decide (pL kd fld zs v = pL kd fld zs v) = true by simp] at sm
  have ro := fun (W : World) (B : Nat) (x : Value) (h : W.ownsRow B 5 1 x (pL kd fld zs v).length (vs (pL kd fld zs v))) => row_of_own h
  have ro' := fun (W : World) (B : Nat) (x : Value) (h : W.ownsRow B 5 1 x zs.length (vs zs)) => row_of_own h
  have rn := fun (W : World) (B cap' : Nat) (h : W.ownsRow B 5 1 (.slice none zs.length cap') zs.length (vs zs)) => (show cap' = 0 by
    rcases h.2 with ⟨h, _⟩ | ⟨g, c, cur, h, _⟩
    · simp at h; exact h.2
    · simp at h)
  generalize gt kd fld zs = G at *
  generalize cf kd zs.length fld = E1 at *
  generalize pE kd fld zs.length v = E2 at *
  generalize pL kd fld zs v = L at *
  have hb := (Below.refl w.heap.size w).alloc (Nat.le_refl _) (.cells #[.int .i64 kd, .slice a zs.length cap, .int .i64 fld, .int .i64 oth, .int .u64 v] 68)
  have n0 := heap_alloc_new w (.cells #[.int .i64 kd, .slice a zs.length cap, .int .i64 fld, .int .i64 oth, .int .u64 v] 68)
  have HL := TW.hide (vs_length zs)
  have HO := TW.hide (oneCell_vs zs)
  have HR := TW.hide hr
  have G1 := TW.hide g1
  have G2 := TW.hide g2
  have P1 := TW.hide p1
  have P2 := TW.hide p2
  have SM := TW.hide sm
  have RO := TW.hide ro
  have RO' := TW.hide ro'
  have RN := TW.hide rn
  have HZ : Hid (a = none → zs = []) := fun h => by
    rcases hr with h' | ⟨b, off, h', _⟩
    · exact h'
    · rw [h] at h'; cases h'
  generalize hlen : zs.length = len at *
  generalize hlenL : L.length = lenL at *
  have HLEN := TW.hide hlen
  clear hr g1 g2 p1 p2 sm ro ro' rn hpl hlen hlenL hz
  go_enter Try.func8, Try.ntmps8
  refine wp_seq_k fun K hK => ?_
  have HK := TW.hide hK
  clear hK
  go_wp2
  refine HK.out _ _ ?_
  clear HK K
  generalize w.alloc (.cells #[.int .i64 kd, .slice a len cap, .int .i64 fld, .int .i64 oth, .int .u64 v] 68) = W at hb n0 ⊢
  have R0 := TW.hide (HR.out.below hb)
  have c0 := blk_cell n0 (i := 0) (v := .int .i64 kd) rfl
  have c1 := blk_cell n0 (i := 1) (v := .slice a len cap) rfl
  have c2 := blk_cell n0 (i := 2) (v := .int .i64 fld) rfl
  have c4 := blk_cell n0 (i := 4) (v := .int .u64 v) rfl
  have HB := TW.hide hb
  clear hb n0 HR
  go_wp2
  go_quiet (fail)
  cases a with
  | none =>
    obtain rfl := hn rfl
    obtain rfl := HZ.out rfl
    obtain rfl : len = 0 := HLEN.out.symm
    go_wp2_with fail
    have T1 : Hid (Row (W.drewN nq) none []) := .inl rfl
    have T2 : Hid (Row (W.drewN nq) none []) := .inl rfl
    have R1 : Hid (Row (W.drewN nq) none []) := .inl rfl
    have BT : Hid (Below w.heap.size w (W.drewN nq)) := below_drewN HB.out nq
    refine (G1.out _ _ _ T1.out).mono ?_
    rintro e w5 ⟨rfl, hb5⟩
    have T2' := TW.hide (T2.out.below hb5)
    have R1' := TW.hide (R1.out.below hb5)
    have B5 : Hid (Below w.heap.size w w5) := BT.out.trans (hb5.mono BT.out.size)
    clear hb5 T1 T2 R1 BT
    go_wp2_with fail
    refine (G2.out _ R1'.out).mono ?_
    rintro e w6 ⟨rfl, rfl⟩
    go_wp2_with fail
    refine (P1.out _ _ _ T2'.out (fun _ => rfl)).mono ?_
    rintro e w7 ⟨x7, rfl, hown7, hb7⟩
    obtain ⟨a7, cap7, rfl, hr7, _⟩ := RO.out _ _ _ hown7
    have R7 := TW.hide hr7
    have R1'' := TW.hide (R1'.out.below hb7)
    have B7 : Hid (Below w.heap.size w w7) := B5.out.trans (hb7.mono B5.out.size)
    clear hown7 hr7 hb7 B5 R1' T2'
    go_wp2_with fail
    refine (P2.out _ R1''.out).mono ?_
    rintro e w8 ⟨x8, rfl, hown8, hb8⟩
    obtain ⟨a8, cap8, rfl, hr8, _⟩ := RO.out _ _ _ hown8
    have R8 := TW.hide hr8
    have R7' := TW.hide (R7.out.below hb8)
    have B8 : Hid (Below w.heap.size w w8) := B7.out.trans (hb8.mono B7.out.size)
    clear hown8 hr8 hb8 B7 R7 R1''
    go_wp2_with fail
    refine (SM.out _ _ _ _ _ R7'.out R8.out).mono ?_
    rintro e w9 ⟨rfl, q9, rfl⟩
    go_wp2_with fail
    go_ret
    exact ⟨rfl, below_drewN B8.out _⟩
  | some ad =>
    have HC : Hid (∀ (j : Nat) (u : Value), (vs zs)[j]? = some u → (W.drewN nq).cell? (ad.add j) = some u) := row_cells (R0.out.drewN nq) (Below.refl _ _)
    have R0' : Hid (Row (W.drewN nq) (some ad) zs) := R0.out.drewN nq
    have BW : Hid (Below w.heap.size w (W.drewN nq)) := below_drewN HB.out nq
    clear R0 HB c0 c1 c2 c4
    generalize W.drewN nq = W1 at HC R0' BW ⊢
    go_wp2_with (at_builtin; first | (refine wpList_append_own _ rfl _ _ 29 rfl W1.heap.size 5 i0 (.int .u8 0) 1 1 Try.underlying29 hi hz0 hz1 hz2 rfl (by decide) _ _ _ rfl (World.ownsRow_nil _ W1.heap.size 5 1) ad len cap (vs zs) rfl (by rw [Nat.mul_one]; exact HL.out) (HC.out) HO.out (by unfold maxLen; omega) (by omega) (by simp) ?_; intro v1 w2 ho1 hg1 _; have H1 := TW.hide ho1; have H2 := TW.hide hg1; clear ho1 hg1) | (refine wpList_append_own _ rfl _ _ 29 rfl w2.heap.size 5 i0 (.int .u8 0) 1 1 Try.underlying29 hi hz0 hz1 hz2 rfl (by decide) _ _ _ rfl (World.ownsRow_nil _ w2.heap.size 5 1) ad len cap (vs zs) rfl (by rw [Nat.mul_one]; exact HL.out) (row_cells R0'.out ((Below.refl _ _).grown H2.out (Nat.le_refl _) (own_block (World.ownsRow_nil W1 W1.heap.size 5 1)))) HO.out (by unfold maxLen; omega) (by omega) (by simp) ?_; intro v2 w3 ho2 hg2 _; have H3 := TW.hide ho2; have H4 := TW.hide hg2; clear ho2 hg2))
    have b2 : Below W1.heap.size W1 w2 := (Below.refl _ _).grown H2.out (Nat.le_refl _) (own_block (World.ownsRow_nil W1 W1.heap.size 5 1))
    have b3 : Below w2.heap.size w2 w3 := (Below.refl _ _).grown H4.out (Nat.le_refl _) (own_block (World.ownsRow_nil w2 w2.heap.size 5 1))
    have o1 := H1.out
    have o2 := H3.out
    rw [Nat.zero_add] at o1 o2
    obtain ⟨a1, cap1, rfl, r1, _⟩ := RO'.out _ _ _ o1
    obtain ⟨a2, cap2, rfl, r2, _⟩ := RO'.out _ _ _ o2
    have T1 := TW.hide (r1.below b3)
    have T2 := TW.hide r2
    have R1 := TW.hide ((R0'.out.below b2).below b3)
    have TN : Hid (a2 = none → cap2 = 0) := fun h => by subst h; exact RN.out _ _ _ o2
    have BT : Hid (Below w.heap.size w w3) := (BW.out.trans (b2.mono BW.out.size)).trans (b3.mono (Nat.le_trans BW.out.size b2.size))
    clear b2 b3 o1 o2 r1 r2 H1 H2 H3 H4 R0' BW HC
    refine (G1.out _ _ _ T1.out).mono ?_
    rintro e w5 ⟨rfl, hb5⟩
    have T2' := TW.hide (T2.out.below hb5)
    have R1' := TW.hide (R1.out.below hb5)
    have B5 : Hid (Below w.heap.size w w5) := BT.out.trans (hb5.mono BT.out.size)
    clear hb5 T1 T2 R1 BT
    go_wp2_with fail
    refine (G2.out _ R1'.out).mono ?_
    rintro e w6 ⟨rfl, rfl⟩
    go_wp2_with fail
    refine (P1.out _ _ _ T2'.out TN.out).mono ?_
    rintro e w7 ⟨x7, rfl, hown7, hb7⟩
    obtain ⟨a7, cap7, rfl, hr7, _⟩ := RO.out _ _ _ hown7
    have R7 := TW.hide hr7
    have R1'' := TW.hide (R1'.out.below hb7)
    have B7 : Hid (Below w.heap.size w w7) := B5.out.trans (hb7.mono B5.out.size)
    clear hown7 hr7 hb7 B5 R1' T2' TN
    go_wp2_with fail
    refine (P2.out _ R1''.out).mono ?_
    rintro e w8 ⟨x8, rfl, hown8, hb8⟩
    obtain ⟨a8, cap8, rfl, hr8, _⟩ := RO.out _ _ _ hown8
    have R8 := TW.hide hr8
    have R7' := TW.hide (R7.out.below hb8)
    have B8 : Hid (Below w.heap.size w w8) := B7.out.trans (hb8.mono B7.out.size)
    clear hown8 hr8 hb8 B7 R7 R1''
    go_wp2_with fail
    refine (SM.out _ _ _ _ _ R7'.out R8.out).mono ?_
    rintro e w9 ⟨rfl, q9, rfl⟩
    go_wp2_with fail
    go_ret
    exact ⟨rfl, below_drewN B8.out _⟩
end LW
end Go.Proofs.Yteakoajkmcbilaa
