/-
  What the law MixbWords does: Words, Start and Bytes of the program answer as the document's.
-/
import Derived.Test.YtkilackhomhpgaaDoorBytesB
import Derived.Test.YtkilackhomhpgaaDoorRoundsLaw
import Derived.Laws.AppendOwnNone
namespace Go.Proofs.YtkilackhomhpgaaDoor
open Go.RowKit
set_option linter.unusedVariables false
set_option linter.unusedSimpArgs false
namespace MX
open Turn
attribute [local go_sem ↓] Go.wp_at_zero Go.wp_at_succ
open Words
theorem empty_own (w : World) : (w.alloc (.cells #[] 5)).ownsRow w.heap.size 5 1 (.slice (some ⟨w.heap.size, 0, none⟩) 0 0) 0 (LW.vs []) := by
  refine ⟨rfl, .inr ⟨w.heap.size, 0, #[], rfl, Nat.le_refl _, ?_, Nat.le_refl _, Nat.zero_le _, rfl, rfl⟩⟩
  show (w.heap.push _)[w.heap.size]? = _
  simp
/-- 'append(v, b...)' where the call itself has made v, and it is empty. -/
theorem wpList_copy_own {w : World} {base : Nat} {ops : Array Oper} {rest : List Oper} {o : Oper} {a : Act} {Q : Exit → Act → World → Prop} (hgd : o.guard = none) (s x : Operand)
    (ho : o.op = .call { callee := .builtin .append, args := #[s, x], argTypes := #[30, 30] }) (v : Value) (b : Option Addr) (cap : Nat) (zs : List Int) (len : Nat) (hlen : zs.length = len) (hs : a.eval s = v) (hown : w.ownsRow base 5 1 v 0 (LW.vs [])) (hx : a.eval x = .slice b len cap)
    (hr : LW.Row w b zs) (hn : b = none → cap = 0) (hm : len ≤ 140737488351232) (hbase : base ≤ w.heap.size)
    (h : ∀ x' w', w'.ownsRow base 5 1 x' len (LW.vs zs) → Below base w w' → wpList Tryd.prog ops Q rest (a.put o.dst x') w') : wpList Tryd.prog ops Q (o :: rest) a w := by
  obtain ⟨i0, hi, hz0, hz1, hz2⟩ := info_parts LW.info5
  subst hlen
  cases b with
  | none =>
    obtain rfl := hn rfl
    obtain rfl : zs = [] := by rcases hr with h | ⟨b, off, h, _⟩ <;> first | exact h | cases h
    exact wpList_append_own_none hgd s x 30 ho base 5 i0 1 Tryd.underlying30 hi _ 0 [] hs hown hx (h _ _ hown (Below.refl _ _))
  | some ad =>
    have hnews : ∀ (j : Nat) (u : Value), (LW.vs zs)[j]? = some u → w.cell? (ad.add j) = some u := by
      intro j u hj
      have hlt : j < zs.length := by rw [← LW.vs_length zs]; exact (List.getElem?_eq_some_iff.1 hj).1
      obtain ⟨b', off', he, hc⟩ := row_at hr (by omega)
      cases he
      exact hc j u hj
    refine wpList_append_own _ hgd s x 30 ho base 5 i0 (.int .u8 0) 1 1 Tryd.underlying30 hi hz0 hz1 hz2 rfl (by decide) v 0 [] hs hown ad zs.length cap (LW.vs zs) hx (by rw [Nat.mul_one]; exact LW.vs_length zs) hnews (oneCell_vs zs) (by unfold maxLen; omega) (by omega) hbase ?_
    intro v' w2 hown' hgrow' _
    rw [Nat.zero_add] at hown'
    exact h _ _ hown' ((Below.refl _ _).grown hgrow' hbase (LW.own_block hown))
set_option maxRecDepth 100000 in
set_option maxHeartbeats 4000000 in
theorem wordsGen (hs X Y : List Int) (E F : Int) (b : Option Addr) (cap : Nat) (zs : List Int) (w : World) (ti : Tab w 0 .u64 ivL) (to : Tab w 1 .u8 ordL) (hz : Byt zs) (hr : LW.Row w b zs) (hn : b = none → cap = 0) (hm : zs.length ≤ 140737488351232)
    (hl : hs.length = 8) (hW : Ws hs) (hX : X.length = 16) (hY : Y.length = 8)
    (h13 : ∀ W a cap, LW.Row W a zs → Calls Tryd.prog 13 #[.slice a zs.length cap] W fun e w' => e = .returned (.tuple #[.agg (K .u64 X), .int .i64 E]) ∧ Below W.heap.size W w')
    (h14 : ∀ W a cap, LW.Row W a zs → Calls Tryd.prog 14 #[.slice a zs.length cap] W fun e w' => e = .returned (.tuple #[.agg (K .u64 X), .int .i64 E]) ∧ Below W.heap.size W w')
    (h15 : ∀ W a cap, LW.Row W a zs → Tab W 0 .u64 ivL → Calls Tryd.prog 15 #[.slice a zs.length cap] W fun e w' => e = .returned (.tuple #[.agg (K .u64 Y), .int .i64 F]) ∧ Below W.heap.size W w')
    (h16 : ∀ W a cap, LW.Row W a zs → Calls Tryd.prog 16 #[.slice a zs.length cap] W fun e w' => e = .returned (.tuple #[.agg (K .u64 Y), .int .i64 F]) ∧ Below W.heap.size W w') :
    Calls Tryd.prog 4 #[.slice b zs.length cap, .agg (K .u64 hs)] w fun e w' => e = .returned (.bool true) ∧ Below w.heap.size w w' := by
  have ih := info23 hs hl
  have iX := info31 X hX
  have iY := info23 Y hY
  have oX := size16 (List.replicate 16 0) X rfl hX
  have oY := size8 (List.replicate 8 0) Y rfl hY
  have q1 := fun W => eq16 W X X hX hX
  have q2 := fun W => eq8 W Y Y hY hY
  simp only [decide_true] at q1 q2
  have hlen : (bytesL hs).length = 64 := by rw [bytesL_length, hl]
  have h17 : ∀ X' a cap a' cap', LW.Row X' a (bytesL hs) → LW.Row X' a' (bytesL hs) → Calls Tryd.prog 17 #[.slice a 64 cap, .slice a' 64 cap'] X' fun e w' => e = .returned (.bool true) ∧ ∃ q, w' = X'.drewN q := fun X' a cap a' cap' r1 r2 => by
    have h := LW.rsame a a' cap cap' (bytesL hs) (bytesL hs) X' r1 r2 (by rw [hlen]; unfold maxLen; omega) (by rw [hlen]; unfold maxLen; omega)
    rw [hlen] at h
    simpa using h
  have h17b : ∀ X' a cap a' cap', LW.Row X' a zs → LW.Row X' a' zs → Calls Tryd.prog 17 #[.slice a zs.length cap, .slice a' zs.length cap'] X' fun e w' => e = .returned (.bool true) ∧ ∃ q, w' = X'.drewN q := fun X' a cap a' cap' r1 r2 => by
    have h := LW.rsame a a' cap cap' zs zs X' r1 r2 (by unfold maxLen; omega) (by unfold maxLen; omega)
    simpa using h
  have h18 := fun X' => bytes hs X' hl hW
  have h19 := fun X' => rbytes hs X' hl hW
  clear hz hX hY hl hW hlen
  have TI := TW.hide ti
  have TO := TW.hide to
  have H13 := TW.hide h13
  have H14 := TW.hide h14
  have H15 := TW.hide h15
  have H16 := TW.hide h16
  have H17 := TW.hide h17
  have H17b := TW.hide h17b
  have H18 := TW.hide h18
  have H19 := TW.hide h19
  have IH := TW.hide ih
  have IX := TW.hide iX
  have IY := TW.hide iY
  have OX := TW.hide oX
  have OY := TW.hide oY
  have Q1 := TW.hide q1
  have Q2 := TW.hide q2
  have HROW := TW.hide hr
  clear ti to h13 h14 h15 h16 h17 h17b h18 h19 ih iX iY oX oY q1 q2 hr
  have hb := ((Below.refl w.heap.size w).alloc (Nat.le_refl _) (.cells (K .u64 hs) 23))
  have n0 := (heap_new w (.cells (K .u64 hs) 23))
  have HLEN : Hid (zs.length = zs.length) := rfl
  obtain ⟨len, hlen⟩ : ∃ len, zs.length = len := ⟨_, rfl⟩
  rw [hlen] at hm H13 H14 H15 H16 H17b ⊢
  have HN := TW.hide hn
  have HLN := TW.hide hlen
  clear hn hlen HLEN
  go_enter Tryd.func4, Tryd.ntmps4
  refine wp_seq_k fun K hK => ?_
  have HK := TW.hide hK
  clear hK
  go_wp2
  refine HK.out _ _ ?_
  clear HK K
  change Code.wp _ _ _ _ (w.alloc (.cells (K .u64 hs) 23))
  generalize hWW : w.alloc (.cells (K .u64 hs) 23) = W at hb n0 ⊢
  have hW : W.heap.size = w.heap.size + 1 := by rw [← hWW]; simp
  clear hWW
  generalize hB : w.heap.size = B at *
  have NRB := TW.hide (HROW.out.below (hB ▸ hb))
  have N0 := TW.hide n0
  have NB := TW.hide hb
  clear n0 hb
  refine wp_seq_k fun KK hK => ?_
  have HK := TW.hide hK
  clear hK
  have heo := empty_own W
  rw [hW] at heo
  have HEO := TW.hide heo
  clear heo
  have HEB : Hid (Below W.heap.size W (W.alloc (.cells #[] 5))) := (Below.refl _ _).alloc (Nat.le_refl _) _
  go_wp2_with (at_builtin; refine wpList_copy_own (base := B + 1) rfl _ _ rfl _ b cap zs len HLN.out rfl HEO.out rfl (NRB.out.below HEB.out) HN.out (by omega) (by simp; omega) ?_; intro cv w1 hown hbel)
  have hb1 : Below W.heap.size W w1 := HEB.out.trans (hW ▸ hbel)
  have hown' := hown
  rw [← HLN.out] at hown'
  obtain ⟨ca, ccap, hcv, hcrow, _⟩ := LW.row_of_own hown'
  rw [HLN.out] at hcv
  subst hcv
  have NR1 := TW.hide (NRB.out.below hb1)
  have NC1 := TW.hide hcrow
  have N01 := TW.hide (blk_keep N0.out hb1)
  have NB1 : Hid (Below B w w1) := below_row NB.out hb1 (by omega)
  clear hown hbel hb1 hown' hcrow NRB N0 NB HEO HEB hW W
  refine HK.out _ _ ?_
  clear HK KK
  have N0 := N01
  have NB := NB1
  clear N01 NB1
  refine wp_seq_k fun KK hK => ?_
  have HK := TW.hide hK
  clear hK
  go_wp2_with (fail)
  refine (H13.out _ _ _ NC1.out).mono ?_
  rintro e ww1 ⟨rfl, hb1⟩
  have N0' := TW.hide (blk_keep N0.out hb1)
  have NB' : Hid (Below B w ww1) := below_row NB.out hb1 (le_of_below NB.out (by omega))
  have NRa := TW.hide (NR1.out.below hb1)
  have NCa := TW.hide (NC1.out.below hb1)
  clear hb1
  clear N0 NB
  have N0 := N0'
  have NB := NB'
  clear N0' NB'
  go_wp2_with (first | (refine wpList_store_row (by rfl) 31 _ _ (by rfl) ww1.heap.size (K .u64 X) (by rfl) (by rfl) 31 _ (heap_new ww1 _) IX.out OX.out (K_one _ _) ?_))
  have n1 := setRow_heap _ _ _ (K .u64 X) _ _ (heap_new ww1 (.cells #[.int .u64 0, .int .u64 0, .int .u64 0, .int .u64 0, .int .u64 0, .int .u64 0, .int .u64 0, .int .u64 0, .int .u64 0, .int .u64 0, .int .u64 0, .int .u64 0, .int .u64 0, .int .u64 0, .int .u64 0, .int .u64 0] 31))
  have bx1 := below_setRow (cs := (K .u64 X)) ((Below.refl ww1.heap.size ww1).alloc (Nat.le_refl _) (.cells #[.int .u64 0, .int .u64 0, .int .u64 0, .int .u64 0, .int .u64 0, .int .u64 0, .int .u64 0, .int .u64 0, .int .u64 0, .int .u64 0, .int .u64 0, .int .u64 0, .int .u64 0, .int .u64 0, .int .u64 0, .int .u64 0] 31)) (g := ww1.heap.size) (Nat.le_refl _)
  generalize (ww1.alloc (.cells #[.int .u64 0, .int .u64 0, .int .u64 0, .int .u64 0, .int .u64 0, .int .u64 0, .int .u64 0, .int .u64 0, .int .u64 0, .int .u64 0, .int .u64 0, .int .u64 0, .int .u64 0, .int .u64 0, .int .u64 0, .int .u64 0] 31)).setRow ww1.heap.size (K .u64 X) = XX1 at n1 bx1 ⊢
  have N0' := TW.hide (blk_keep N0.out bx1)
  have NB' : Hid (Below B w XX1) := below_row NB.out bx1 (le_of_below NB.out (by omega))
  have R1 := TW.hide n1
  have NR2 := TW.hide (NRa.out.below bx1)
  have NC2 := TW.hide (NCa.out.below bx1)
  clear n1 bx1 NRa NCa NR1 NC1
  clear N0 NB
  have N0 := N0'
  have NB := NB'
  clear N0' NB'
  generalize ww1.heap.size = g1 at *
  refine HK.out _ _ ?_
  clear HK KK
  refine wp_seq_k fun KK hK => ?_
  have HK := TW.hide hK
  clear hK
  go_wp2_with (fail)
  refine (H14.out _ _ _ NR2.out).mono ?_
  rintro e ww2 ⟨rfl, hb2⟩
  have N0' := TW.hide (blk_keep N0.out hb2)
  have R1' := TW.hide (blk_keep R1.out hb2)
  have NB' : Hid (Below B w ww2) := below_row NB.out hb2 (le_of_below NB.out (by omega))
  have NRa := TW.hide (NR2.out.below hb2)
  have NCa := TW.hide (NC2.out.below hb2)
  clear hb2
  clear N0 R1 NB
  have N0 := N0'
  have R1 := R1'
  have NB := NB'
  clear N0' R1' NB'
  go_wp2_with (first | (refine wpList_store_row (by rfl) 31 _ _ (by rfl) ww2.heap.size (K .u64 X) (by rfl) (by rfl) 31 _ (heap_new ww2 _) IX.out OX.out (K_one _ _) ?_))
  have n2 := setRow_heap _ _ _ (K .u64 X) _ _ (heap_new ww2 (.cells #[.int .u64 0, .int .u64 0, .int .u64 0, .int .u64 0, .int .u64 0, .int .u64 0, .int .u64 0, .int .u64 0, .int .u64 0, .int .u64 0, .int .u64 0, .int .u64 0, .int .u64 0, .int .u64 0, .int .u64 0, .int .u64 0] 31))
  have bx2 := below_setRow (cs := (K .u64 X)) ((Below.refl ww2.heap.size ww2).alloc (Nat.le_refl _) (.cells #[.int .u64 0, .int .u64 0, .int .u64 0, .int .u64 0, .int .u64 0, .int .u64 0, .int .u64 0, .int .u64 0, .int .u64 0, .int .u64 0, .int .u64 0, .int .u64 0, .int .u64 0, .int .u64 0, .int .u64 0, .int .u64 0] 31)) (g := ww2.heap.size) (Nat.le_refl _)
  generalize (ww2.alloc (.cells #[.int .u64 0, .int .u64 0, .int .u64 0, .int .u64 0, .int .u64 0, .int .u64 0, .int .u64 0, .int .u64 0, .int .u64 0, .int .u64 0, .int .u64 0, .int .u64 0, .int .u64 0, .int .u64 0, .int .u64 0, .int .u64 0] 31)).setRow ww2.heap.size (K .u64 X) = XX2 at n2 bx2 ⊢
  have N0' := TW.hide (blk_keep N0.out bx2)
  have R1' := TW.hide (blk_keep R1.out bx2)
  have NB' : Hid (Below B w XX2) := below_row NB.out bx2 (le_of_below NB.out (by omega))
  have R2 := TW.hide n2
  have NR3 := TW.hide (NRa.out.below bx2)
  have NC3 := TW.hide (NCa.out.below bx2)
  clear n2 bx2 NRa NCa NR2 NC2
  clear N0 R1 NB
  have N0 := N0'
  have R1 := R1'
  have NB := NB'
  clear N0' R1' NB'
  generalize ww2.heap.size = g2 at *
  refine HK.out _ _ ?_
  clear HK KK
  refine wp_seq_k fun KK hK => ?_
  have HK := TW.hide hK
  clear hK
  go_wp2_with (fail)
  refine (H15.out _ _ _ NC3.out (TI.out.below (hB ▸ NB.out))).mono ?_
  rintro e ww3 ⟨rfl, hb3⟩
  have N0' := TW.hide (blk_keep N0.out hb3)
  have R1' := TW.hide (blk_keep R1.out hb3)
  have R2' := TW.hide (blk_keep R2.out hb3)
  have NB' : Hid (Below B w ww3) := below_row NB.out hb3 (le_of_below NB.out (by omega))
  have NRa := TW.hide (NR3.out.below hb3)
  have NCa := TW.hide (NC3.out.below hb3)
  clear hb3
  clear N0 R1 R2 NB
  have N0 := N0'
  have R1 := R1'
  have R2 := R2'
  have NB := NB'
  clear N0' R1' R2' NB'
  go_wp2_with (first | (refine wpList_store_row (by rfl) 23 _ _ (by rfl) ww3.heap.size (K .u64 Y) (by rfl) (by rfl) 23 _ (heap_new ww3 _) IY.out OY.out (K_one _ _) ?_))
  have n3 := setRow_heap _ _ _ (K .u64 Y) _ _ (heap_new ww3 (.cells #[.int .u64 0, .int .u64 0, .int .u64 0, .int .u64 0, .int .u64 0, .int .u64 0, .int .u64 0, .int .u64 0] 23))
  have bx3 := below_setRow (cs := (K .u64 Y)) ((Below.refl ww3.heap.size ww3).alloc (Nat.le_refl _) (.cells #[.int .u64 0, .int .u64 0, .int .u64 0, .int .u64 0, .int .u64 0, .int .u64 0, .int .u64 0, .int .u64 0] 23)) (g := ww3.heap.size) (Nat.le_refl _)
  generalize (ww3.alloc (.cells #[.int .u64 0, .int .u64 0, .int .u64 0, .int .u64 0, .int .u64 0, .int .u64 0, .int .u64 0, .int .u64 0] 23)).setRow ww3.heap.size (K .u64 Y) = XX3 at n3 bx3 ⊢
  have N0' := TW.hide (blk_keep N0.out bx3)
  have R1' := TW.hide (blk_keep R1.out bx3)
  have R2' := TW.hide (blk_keep R2.out bx3)
  have NB' : Hid (Below B w XX3) := below_row NB.out bx3 (le_of_below NB.out (by omega))
  have R3 := TW.hide n3
  have NR4 := TW.hide (NRa.out.below bx3)
  have NC4 := TW.hide (NCa.out.below bx3)
  clear n3 bx3 NRa NCa NR3 NC3
  clear N0 R1 R2 NB
  have N0 := N0'
  have R1 := R1'
  have R2 := R2'
  have NB := NB'
  clear N0' R1' R2' NB'
  generalize ww3.heap.size = g3 at *
  refine HK.out _ _ ?_
  clear HK KK
  refine wp_seq_k fun KK hK => ?_
  have HK := TW.hide hK
  clear hK
  go_wp2_with (fail)
  refine (H16.out _ _ _ NR4.out).mono ?_
  rintro e ww4 ⟨rfl, hb4⟩
  have N0' := TW.hide (blk_keep N0.out hb4)
  have R1' := TW.hide (blk_keep R1.out hb4)
  have R2' := TW.hide (blk_keep R2.out hb4)
  have R3' := TW.hide (blk_keep R3.out hb4)
  have NB' : Hid (Below B w ww4) := below_row NB.out hb4 (le_of_below NB.out (by omega))
  have NRa := TW.hide (NR4.out.below hb4)
  have NCa := TW.hide (NC4.out.below hb4)
  clear hb4
  clear N0 R1 R2 R3 NB
  have N0 := N0'
  have R1 := R1'
  have R2 := R2'
  have R3 := R3'
  have NB := NB'
  clear N0' R1' R2' R3' NB'
  go_wp2_with (first | (refine wpList_store_row (by rfl) 23 _ _ (by rfl) ww4.heap.size (K .u64 Y) (by rfl) (by rfl) 23 _ (heap_new ww4 _) IY.out OY.out (K_one _ _) ?_))
  have n4 := setRow_heap _ _ _ (K .u64 Y) _ _ (heap_new ww4 (.cells #[.int .u64 0, .int .u64 0, .int .u64 0, .int .u64 0, .int .u64 0, .int .u64 0, .int .u64 0, .int .u64 0] 23))
  have bx4 := below_setRow (cs := (K .u64 Y)) ((Below.refl ww4.heap.size ww4).alloc (Nat.le_refl _) (.cells #[.int .u64 0, .int .u64 0, .int .u64 0, .int .u64 0, .int .u64 0, .int .u64 0, .int .u64 0, .int .u64 0] 23)) (g := ww4.heap.size) (Nat.le_refl _)
  generalize (ww4.alloc (.cells #[.int .u64 0, .int .u64 0, .int .u64 0, .int .u64 0, .int .u64 0, .int .u64 0, .int .u64 0, .int .u64 0] 23)).setRow ww4.heap.size (K .u64 Y) = XX4 at n4 bx4 ⊢
  have N0' := TW.hide (blk_keep N0.out bx4)
  have R1' := TW.hide (blk_keep R1.out bx4)
  have R2' := TW.hide (blk_keep R2.out bx4)
  have R3' := TW.hide (blk_keep R3.out bx4)
  have NB' : Hid (Below B w XX4) := below_row NB.out bx4 (le_of_below NB.out (by omega))
  have R4 := TW.hide n4
  have NR5 := TW.hide (NRa.out.below bx4)
  have NC5 := TW.hide (NCa.out.below bx4)
  clear n4 bx4 NRa NCa NR4 NC4
  clear N0 R1 R2 R3 NB
  have N0 := N0'
  have R1 := R1'
  have R2 := R2'
  have R3 := R3'
  have NB := NB'
  clear N0' R1' R2' R3' NB'
  generalize ww4.heap.size = g4 at *
  refine HK.out _ _ ?_
  clear HK KK
  go_wp2
  have HT : Hid (XX4.heap[g1]? = some (.cells (K .u64 X) 31 (0, 0)) ∧ XX4.heap[g2]? = some (.cells (K .u64 X) 31 (0, 0)) ∧ XX4.heap[g3]? = some (.cells (K .u64 Y) 23 (0, 0)) ∧ XX4.heap[g4]? = some (.cells (K .u64 Y) 23 (0, 0)) ∧ XX4.heap[B]? = some (.cells (K .u64 hs) 23 (0, 0))) := ⟨R1.out, R2.out, R3.out, R4.out, N0.out⟩
  have HTK : Hid (∀ Z Z' : World, (Z.heap[g1]? = some (.cells (K .u64 X) 31 (0, 0)) ∧ Z.heap[g2]? = some (.cells (K .u64 X) 31 (0, 0)) ∧ Z.heap[g3]? = some (.cells (K .u64 Y) 23 (0, 0)) ∧ Z.heap[g4]? = some (.cells (K .u64 Y) 23 (0, 0)) ∧ Z.heap[B]? = some (.cells (K .u64 hs) 23 (0, 0))) → Below Z.heap.size Z Z' → (Z'.heap[g1]? = some (.cells (K .u64 X) 31 (0, 0)) ∧ Z'.heap[g2]? = some (.cells (K .u64 X) 31 (0, 0)) ∧ Z'.heap[g3]? = some (.cells (K .u64 Y) 23 (0, 0)) ∧ Z'.heap[g4]? = some (.cells (K .u64 Y) 23 (0, 0)) ∧ Z'.heap[B]? = some (.cells (K .u64 hs) 23 (0, 0)))) := fun Z Z' h hb => ⟨blk_keep h.1 hb, blk_keep h.2.1 hb, blk_keep h.2.2.1 hb, blk_keep h.2.2.2.1 hb, blk_keep h.2.2.2.2 hb⟩
  clear R1 R2 R3 R4 N0
  refine wp_region_noPanic ?_
  refine RG.wp_region_L (fun _ => True) (fun Z' => Z'.heap[g1]? = some (.cells (K .u64 X) 31 (0, 0)) ∧ Z'.heap[g2]? = some (.cells (K .u64 X) 31 (0, 0)) ∧ Z'.heap[g3]? = some (.cells (K .u64 Y) 23 (0, 0)) ∧ Z'.heap[g4]? = some (.cells (K .u64 Y) 23 (0, 0)) ∧ Z'.heap[B]? = some (.cells (K .u64 hs) 23 (0, 0))) [] (by kernel_rfl) ?_
  refine RG.wpL_take (fuel := 13) (a' := ?A1) [0, 1, 2, 3, 4, 5, 6, 7, 8, 9, 10, 11, 12, 13, 14, 15, 16, 17, 18, 19, 21] (by kernel_rfl) (by kernel_rfl) (fun _ _ _ _ _ h => h) HT.out (fun _ => trivial) ?r1 ?_
  case r1 =>
    have q1 := Q1.out
    have q2 := Q2.out
    refine RG.RunsIf.weak (by rfl) (by rfl) (fun Z' hT => exec_load_row 31 _ (by rfl) g1 (by rfl) 31 (K .u64 X) (0, 0) _ hT.1 Tryd.underlying31 rfl IX.out) ?_
    simp only [List.getElem_toArray, List.getElem_cons_zero, List.getElem_cons_succ, Act.put, List.setIfInBounds_toArray, List.set_cons_zero, List.set_cons_succ]
    refine RG.RunsIf.weak (by rfl) (by rfl) (fun Z' hT => exec_load_row 31 _ (by rfl) g2 (by rfl) 31 (K .u64 X) (0, 0) _ hT.2.1 Tryd.underlying31 rfl IX.out) ?_
    simp only [List.getElem_toArray, List.getElem_cons_zero, List.getElem_cons_succ, Act.put, List.setIfInBounds_toArray, List.set_cons_zero, List.set_cons_succ]
    iterate 7
      refine RG.RunsIf.weak (v := ?_) (by rfl) (by rfl) (fun Z' hT => ?_) ?_
      rotate_left
      · clear hT
        go_simp
        rfl
      simp only [List.getElem_toArray, List.getElem_cons_zero, List.getElem_cons_succ, Act.put, List.setIfInBounds_toArray, List.set_cons_zero, List.set_cons_succ]
    refine RG.RunsIf.weak (by rfl) (by rfl) (fun Z' hT => exec_load_row 23 _ (by rfl) g3 (by rfl) 23 (K .u64 Y) (0, 0) _ hT.2.2.1 Tryd.underlying23 rfl IY.out) ?_
    simp only [List.getElem_toArray, List.getElem_cons_zero, List.getElem_cons_succ, Act.put, List.setIfInBounds_toArray, List.set_cons_zero, List.set_cons_succ]
    refine RG.RunsIf.weak (by rfl) (by rfl) (fun Z' hT => exec_load_row 23 _ (by rfl) g4 (by rfl) 23 (K .u64 Y) (0, 0) _ hT.2.2.2.1 Tryd.underlying23 rfl IY.out) ?_
    simp only [List.getElem_toArray, List.getElem_cons_zero, List.getElem_cons_succ, Act.put, List.setIfInBounds_toArray, List.set_cons_zero, List.set_cons_succ]
    iterate 8
      refine RG.RunsIf.weak (v := ?_) (by rfl) (by rfl) (fun Z' hT => ?_) ?_
      rotate_left
      · clear hT
        go_simp
        rfl
      simp only [List.getElem_toArray, List.getElem_cons_zero, List.getElem_cons_succ, Act.put, List.setIfInBounds_toArray, List.set_cons_zero, List.set_cons_succ]
    refine RG.RunsIf.weak (by rfl) (by rfl) (fun Z' hT => exec_load_row 23 _ (by rfl) B (by rfl) 23 (K .u64 hs) (0, 0) _ hT.2.2.2.2 Tryd.underlying23 rfl IH.out) ?_
    simp only [List.getElem_toArray, List.getElem_cons_zero, List.getElem_cons_succ, Act.put, List.setIfInBounds_toArray, List.set_cons_zero, List.set_cons_succ]
    refine RG.RunsIf.weak (by rfl) (by rfl) (fun Z' hT => exec_load_row 23 _ (by rfl) B (by rfl) 23 (K .u64 hs) (0, 0) _ hT.2.2.2.2 Tryd.underlying23 rfl IH.out) ?_
    simp only [List.getElem_toArray, List.getElem_cons_zero, List.getElem_cons_succ, Act.put, List.setIfInBounds_toArray, List.set_cons_zero, List.set_cons_succ]
    exact RG.RunsIf.nil
  refine RG.wpL_any fun V0 hV0 => ?_
  have HT0 : Hid (V0.heap[g1]? = some (.cells (K .u64 X) 31 (0, 0)) ∧ V0.heap[g2]? = some (.cells (K .u64 X) 31 (0, 0)) ∧ V0.heap[g3]? = some (.cells (K .u64 Y) 23 (0, 0)) ∧ V0.heap[g4]? = some (.cells (K .u64 Y) 23 (0, 0)) ∧ V0.heap[B]? = some (.cells (K .u64 hs) 23 (0, 0))) := by show _ ∧ _; rw [hV0]; exact HT.out
  have NR0 : Hid (LW.Row V0 b zs) := by show LW.Row _ _ _; rw [hV0]; exact NR5.out
  have NC0 : Hid (LW.Row V0 ca zs) := by show LW.Row _ _ _; rw [hV0]; exact NC5.out
  have NB0 : Hid (Below B w V0) := by show Below B w V0; rw [hV0]; exact NB.out.drew
  clear hV0 HT NR5 NC5 NB
  refine RG.wpL_stepw (i := 20) (by kernel_rfl) (by rfl) (by rfl) (fun K hK => ?_)
  have HK := TW.hide hK
  clear hK
  go_simp
  refine (H18.out _).mono ?_
  rintro e V1 ⟨a1, cap1, rfl, rw1, hb1⟩
  have HT1 := TW.hide (HTK.out _ _ HT0.out hb1)
  have NR1 := TW.hide (NR0.out.below hb1)
  have NC1 := TW.hide (NC0.out.below hb1)
  have NB1 : Hid (Below B w V1) := below_row NB0.out hb1 (by have := NB0.out.size; omega)
  have RW1 := TW.hide rw1
  clear hb1 rw1 HT0 NR0 NC0 NB0
  refine HK.out _ _ HT1.out (fun _ => trivial) ?_
  clear HK K
  refine RG.wpL_stepw (i := 22) (by kernel_rfl) (by rfl) (by rfl) (fun K hK => ?_)
  have HK := TW.hide hK
  clear hK
  go_simp
  refine (H19.out _).mono ?_
  rintro e V2 ⟨a2, cap2, rfl, rw2, hb2⟩
  have HT2 := TW.hide (HTK.out _ _ HT1.out hb2)
  have NR2 := TW.hide (NR1.out.below hb2)
  have NC2 := TW.hide (NC1.out.below hb2)
  have NB2 : Hid (Below B w V2) := below_row NB1.out hb2 (by have := NB1.out.size; omega)
  have RW1' := TW.hide (RW1.out.below hb2)
  have RW2 := TW.hide rw2
  clear hb2 rw2 HT1 NR1 NC1 NB1 RW1
  refine HK.out _ _ HT2.out (fun _ => trivial) ?_
  clear HK K
  refine RG.wpL_stepw (i := 23) (by kernel_rfl) (by rfl) (by rfl) (fun K hK => ?_)
  have HK := TW.hide hK
  clear hK
  go_simp
  refine (H17.out _ _ _ _ _ RW1'.out RW2.out).mono ?_
  rintro e V3 ⟨rfl, q3, rfl⟩
  refine HK.out _ _ HT2.out (fun _ => trivial) ?_
  clear HK K
  refine RG.wpL_take (fuel := 6) (a' := ?A2) [24, 25, 26, 27] (by kernel_rfl) (by kernel_rfl) (fun _ _ _ _ _ h => h) HT2.out (fun _ => trivial) ?r2 ?_
  case r2 =>
    have q1 := Q1.out
    have q2 := Q2.out
    iterate 4
      refine RG.RunsIf.weak (v := ?_) (by rfl) (by rfl) (fun Z' hT => ?_) ?_
      rotate_left
      · clear hT
        go_simp
        rfl
      simp only [List.getElem_toArray, List.getElem_cons_zero, List.getElem_cons_succ, Act.put, List.setIfInBounds_toArray, List.set_cons_zero, List.set_cons_succ]
    exact RG.RunsIf.nil
  refine RG.wpL_stepw (i := 28) (by kernel_rfl) (by rfl) (by rfl) (fun K hK => ?_)
  have HK := TW.hide hK
  clear hK
  go_simp
  refine (H17b.out _ _ _ _ _ (NR2.out.drewN q3) (NC2.out.drewN q3)).mono ?_
  rintro e V4 ⟨rfl, q4, rfl⟩
  refine HK.out _ _ HT2.out (fun _ => trivial) ?_
  clear HK K
  refine RG.wpL_take (fuel := 3) (a' := ?A3) [29, 30] (by kernel_rfl) (by kernel_rfl) (fun _ _ _ _ _ h => h) HT2.out (fun _ => trivial) ?r3 ?_
  case r3 =>
    have q1 := Q1.out
    have q2 := Q2.out
    iterate 2
      refine RG.RunsIf.weak (v := ?_) (by rfl) (by rfl) (fun Z' hT => ?_) ?_
      rotate_left
      · clear hT
        go_simp
        rfl
      simp only [List.getElem_toArray, List.getElem_cons_zero, List.getElem_cons_succ, Act.put, List.setIfInBounds_toArray, List.set_cons_zero, List.set_cons_succ]
    exact RG.RunsIf.nil
  refine RG.wpL_any fun V5 hV5 => ?_
  have HT5 : Hid (V5.heap[g1]? = some (.cells (K .u64 X) 31 (0, 0)) ∧ V5.heap[g2]? = some (.cells (K .u64 X) 31 (0, 0)) ∧ V5.heap[g3]? = some (.cells (K .u64 Y) 23 (0, 0)) ∧ V5.heap[g4]? = some (.cells (K .u64 Y) 23 (0, 0)) ∧ V5.heap[B]? = some (.cells (K .u64 hs) 23 (0, 0))) := by show _ ∧ _; rw [hV5]; exact HT2.out
  have NB5 : Hid (Below B w V5) := by show Below B w V5; rw [hV5]; exact NB2.out.trans ⟨rfl, rfl, rfl, Nat.le_refl _, fun _ _ => rfl⟩
  clear hV5
  refine RG.wpL_stepw (i := 31) (by kernel_rfl) (by rfl) (by rfl) (fun K hK => ?_)
  have HK := TW.hide hK
  clear hK
  go_simp
  refine (awake V5 (TI.out.below (hB ▸ NB5.out)) (TO.out.below (hB ▸ NB5.out))).mono ?_
  rintro e V6 ⟨rfl, hb6⟩
  have HT6 := TW.hide (HTK.out _ _ HT5.out hb6)
  have NB6 : Hid (Below B w V6) := below_row NB5.out hb6 (by have := NB5.out.size; omega)
  clear hb6
  refine HK.out _ _ HT6.out (fun _ => trivial) ?_
  clear HK K
  refine RG.wpL_take (fuel := 0) (a' := ?A4) [32, 33] (by kernel_rfl) (by kernel_rfl) (fun _ _ _ _ _ h => h) HT6.out (fun _ => trivial) ?r4 ?_
  case r4 =>
    have q1 := Q1.out
    have q2 := Q2.out
    iterate 2
      refine RG.RunsIf.weak (v := ?_) (by rfl) (by rfl) (fun Z' hT => ?_) ?_
      rotate_left
      · clear hT
        go_simp
        rfl
      simp only [List.getElem_toArray, List.getElem_cons_zero, List.getElem_cons_succ, Act.put, List.setIfInBounds_toArray, List.set_cons_zero, List.set_cons_succ]
    exact RG.RunsIf.nil
  refine RG.wpL_done (by kernel_rfl) ?_ _
  refine NoPanic.normal ?_
  go_wp2
  go_ret
  exact ⟨rfl, NB6.out⟩
theorem wordsWalk (b : Option Addr) (cap : Nat) (zs : List Int) (hs : List Int) (w : World) (ti : Tab w 0 .u64 ivL) (to : Tab w 1 .u8 ordL) (hz : Byt zs) (hr : LW.Row w b zs) (hn : b = none → cap = 0) (hm : zs.length ≤ 140737488351232) (hl : hs.length = 8) (hW : Ws hs) :
    Calls Tryd.prog 4 #[.slice b zs.length cap, .agg (K .u64 hs)] w fun e w' => e = .returned (.bool true) ∧ Below w.heap.size w w' := by
  by_cases h1 : zs.length = 128
  · exact wordsGen hs (wordsL zs 16) (List.replicate 8 0) 0 1 b cap zs w ti to hz hr hn hm hl hW (wordsL_length _ _) rfl
      (fun W a c r => by rw [h1]; exact wordsOk a c zs W hz r h1) (fun W a c r => by rw [h1]; exact rwordsOk a c zs W hz r h1)
      (fun W a c r _ => startNo a c zs.length W (by omega)) (fun W a c r => rstartNo a c zs.length W (by omega))
  · by_cases h2 : zs.length = 64
    · exact wordsGen hs (List.replicate 16 0) (startL zs) 1 0 b cap zs w ti to hz hr hn hm hl hW rfl (startL_length _)
        (fun W a c r => wordsNo a c zs.length W h1) (fun W a c r => rwordsNo a c zs.length W h1)
        (fun W a c r t => by rw [h2]; exact startOk a c zs W hz r h2 t) (fun W a c r => by rw [h2]; exact rstartOk a c zs W hz r h2)
    · exact wordsGen hs (List.replicate 16 0) (List.replicate 8 0) 1 1 b cap zs w ti to hz hr hn hm hl hW rfl rfl
        (fun W a c r => wordsNo a c zs.length W h1) (fun W a c r => rwordsNo a c zs.length W h1)
        (fun W a c r _ => startNo a c zs.length W h2) (fun W a c r => rstartNo a c zs.length W h2)
end MX
end Go.Proofs.YtkilackhomhpgaaDoor
