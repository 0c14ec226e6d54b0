/-
  Mix and Over of the document.
-/
import Derived.Test.YtkgemkfajkcgcaaDoorRk2
namespace Go.Proofs.YtkgemkfajkcgcaaDoor
open Go.RowKit
set_option linter.unusedVariables false
set_option linter.unusedSimpArgs false
set_option maxRecDepth 100000
namespace LW
open Turn
open Words
attribute [local go_sem ↓] Go.wp_at_zero Go.wp_at_succ
theorem info22 : (Tryd.prog.info? 22).map (fun i => (i.zero, i.size, i.bytes)) = some (some (.int .u64 0), 1, 8) := by kernel_rfl
set_option maxHeartbeats 8000000 in
theorem rmix (ax : Option Addr) (cx : Nat) (x : List Int) (ay : Option Addr) (cy : Nat) (y : List Int) (w : World) (hx : Byt x) (rx : Row w ax x) (hy : Byt y) (ry : Row w ay y) :
    Calls Tryd.prog 15 #[.slice ax x.length cx, .slice ay y.length cy] w (AnU w (decide (x.length = 1024) && decide (y.length = 1024)) (mbL x y)) := by
  have HXO := TW.hide (rxor ax cx x ay cy y w hx rx hy ry)
  obtain ⟨i5, hi5, hz50, hz51, hz52⟩ := info_parts info5
  obtain ⟨i8, hi8, hz80, hz81, hz82⟩ := info_parts info22
  have HRB : Hid (Byt (xbL x y)) := xbL_Byt hx hy
  have hmb : mbL x y = xbL (xbL x y) (byL (rcL (wdL (xbL x y)))) := rfl
  have HRL : Hid ((xbL x y).length = 1024) := xbL_length x y
  unfold AnU at HXO
  generalize (decide (x.length = 1024) && decide (y.length = 1024)) = ok at *
  generalize hmbl : mbL x y = mb at *
  generalize xbL x y = r at *
  have HMB := TW.hide hmb
  clear hx rx hy ry hmbl hmb
  cases ok with
  | false =>
    have HQ : Hid (∀ W, Below w.heap.size w W → AnU w false mb (.returned (.tuple #[.slice none 0 0, .int .i64 1])) W) := fun W hW => ⟨_, rfl, World.ownsRow_nil _ _ _ _, hW⟩
    go_enter Tryd.func15, Tryd.ntmps15
    go_wp2_with fail
    refine HXO.out.mono ?_
    rintro e w1 ⟨v, rfl, _, hb⟩
    go_wp2
    exact bodyPost_ret (v := .tuple #[.slice none 0 0, .int .i64 1]) (by simp [results, Tryd.results15, go_sem]) rfl (HQ.out _ hb)
  | true =>
    go_enter Tryd.func15, Tryd.ntmps15
    go_wp2_with fail
    refine HXO.out.mono ?_
    rintro e w1 ⟨v, rfl, ho, hb⟩
    simp only [if_true] at ho
    rw [HRL.out] at ho
    have ho2 : w1.ownsRow w.heap.size 5 1 v r.length (vs r) := by rw [HRL.out]; exact ho
    obtain ⟨ar, cr, rfl, hrow, _⟩ := row_of_own ho2
    rw [HRL.out]
    have HRr : Hid (∀ X, Below w1.heap.size w1 X → Row X ar r) := fun X hX => hrow.below hX
    have HBw : Hid (Below w.heap.size w w1) := hb
    clear ho ho2 hrow hb HXO
    have hBs : w1.heap.size ≤ w1.heap.size := Nat.le_refl _
    go_wp2
    go_loopw [8, 9] (fun zv i wr => ∃ k : Nat, k ≤ 128 ∧ i = .int .i64 k ∧ Hid (World.ownsRow wr w1.heap.size 22 1 zv k (((wdL r).take k).map (Value.int .u64))) ∧ Hid (Below w1.heap.size w1 wr)) (fun zv i _ => 128 - (intOf i).toNat)
    case atStart => exact ⟨0, Nat.zero_le _, rfl, World.ownsRow_nil _ _ _ _, Below.refl _ _⟩
    case round =>
      obtain ⟨k, hk, rfl, HO, NB⟩ := hrel
      by_cases hlt : k < 128
      · have q1 : (k : Int) < 128 := by omega
        have q0 : (0 : Int) ≤ (k : Int) := by omega
        have q2 : IntKind.i64.wrap (8 * (k : Int)) = 8 * (k : Int) := by rw [IntKind.wrap_i64]; omega
        have hld := rload ar cr r (8 * (k : Int)) 8 wr HRB.out (HRr.out wr NB.out) (by rw [HRL.out]; decide) (by omega) (by omega) (by decide) (by decide)
        rw [ld_ok r _ 8 (by omega) (by rw [HRL.out]; omega), show (8 * (k : Int)).toNat = 8 * k by omega, HRL.out] at hld
        have htk : (wdL r).take (k + 1) = (wdL r).take k ++ [le ((r.drop (8 * k)).take 8)] := by
          rw [take_snoc _ _ (by rw [wdL_length]; exact hlt)]
          unfold wdL
          rw [mkL_getD _ hlt]
        generalize hxk : le ((r.drop (8 * k)).take 8) = xk at *
        generalize (wdL r).take k = ll at *
        have HLD := TW.hide hld
        have HTK := TW.hide htk
        have HLT : Hid (k < 128) := hlt
        clear hld htk hxk hlt hk
        go_wp2_with fail
        refine HLD.out.mono ?_
        rintro e w2 ⟨rfl, rfl⟩
        have HOA := TW.hide (HO.out.alloc (.cells #[.int .u64 xk] 22))
        have HS1 : Hid (w1.heap.size ≤ (wr.alloc (.cells #[.int .u64 xk] 22)).heap.size) := by show _ ≤ _; have := NB.out.size; simp; omega
        have HC1 : Hid (∀ (j : Nat) (u : Value), [Value.int .u64 xk][j]? = some u → (wr.alloc (.cells #[.int .u64 xk] 22)).cell? ((⟨wr.heap.size, 0, none⟩ : Addr).add j) = some u) := fun j u hj => by
          match j, hj with
          | 0, hj => simp at hj; subst hj; simp [Addr.add]
        have HNB1 : Hid (Below w1.heap.size w1 (wr.alloc (.cells #[.int .u64 xk] 22))) := NB.out.alloc NB.out.size _
        go_wp2_with (at_builtin; refine wpList_append_own _ rfl _ _ 55 rfl w1.heap.size 22 i8 (.int .u64 0) 1 8 Tryd.underlying55 hi8 hz80 hz81 hz82 rfl (by decide) _ _ _ rfl HOA.out ⟨wr.heap.size, 0, none⟩ 1 1 [.int .u64 xk] rfl rfl HC1.out (by intro u hu; simp at hu; subst hu; rfl) (by have := HLT.out; unfold maxLen; omega) (by have := HLT.out; omega) HS1.out ?_; intro v' w3 hown' hgrow' _; have HO3 := TW.hide hown'; have HG3 := TW.hide hgrow'; clear hown' hgrow')
        have NB3 : Hid (Below w1.heap.size w1 w3) := HNB1.out.grown HG3.out HS1.out (fun q hq => (HO.out.lt q hq).1)
        have HO4 : Hid (World.ownsRow w3 w1.heap.size 22 1 v' (k + 1) (((wdL r).take (k + 1)).map (Value.int .u64))) := by show World.ownsRow _ _ _ _ _ _ _; rw [HTK.out, List.map_append]; exact HO3.out
        clear HOA HS1 HC1 HNB1 HG3 HO3 HO NB
        go_wp2
        go_roundw
        case rel => exact ⟨k + 1, HLT.out, by go_num, HO4, NB3⟩
        case measure => simp [intOf]; have := HLT.out; omega
      · obtain rfl : k = 128 := by omega
        have hO9 : World.ownsRow wr w1.heap.size 22 1 u8 128 ((wdL r).map (Value.int .u64)) := by
          have h := HO.out
          rw [List.take_of_length_le (by rw [wdL_length]; omega)] at h
          exact h
        clear HO
        rcases hO9.2 with ⟨_, h0⟩ | ⟨gz, cz, cur, rfl, _⟩
        · exact absurd h0 (by decide)
        have NZ : Hid (World.ownsRow wr w1.heap.size 22 1 (.slice (some ⟨gz, 0, none⟩) 128 cz) 128 (((rwT (wdL r) 0)).map (Value.int .u64))) := hO9
        have HWS : Hid (Ws (wdL r)) := wdL_Ws HRB.out
        have HWL : Hid ((wdL r).length = 128) := wdL_length r
        clear hO9 hlt hk
        generalize wdL r = z0 at *
        go_wp2
        go_loopw [12] (fun i wr => ∃ k : Nat, k ≤ 8 ∧ i = .int .i64 k ∧ Hid (World.ownsRow wr w1.heap.size 22 1 (.slice (some ⟨gz, 0, none⟩) 128 cz) 128 (((rwT z0 k)).map (Value.int .u64))) ∧ Hid (Below w1.heap.size w1 wr)) (fun i _ => 8 - (intOf i).toNat)
        case atStart => exact ⟨0, Nat.zero_le _, rfl, NZ, NB⟩
        case round =>
          clear NZ NB
          obtain ⟨k, hk, rfl, NZ, NB⟩ := hrel
          by_cases hlt : k < 8
          · have q1 : (k : Int) < 8 := by omega
            have q0 : (0 : Int) ≤ (k : Int) := by omega
            have HLT : Hid (k < 8) := hlt
            have hlz : (rwT z0 k).length = 128 := by rw [rwT_length, HWL.out]
            have hpp : ∀ i, i < 16 → ∃ p : Nat, p < 128 ∧ (prA (16 * k) 2).getD i 0 = (p : Int) := fun i hi => ⟨16 * k + 2 * (i / 2) + i % 2, by omega, by unfold prA; rw [mkL_getD _ hi]⟩
            have HTH := TW.hide (fun X cz gz hX => rput (rwT z0 k) (prA (16 * k) 2) w1.heap.size gz cz X hlz (rwT_Ws HWS.out k) (mkL_length _ _) hpp hX)
            have HNX : Hid (thL (rwT z0 k) (prA (16 * k) 2) = rwT z0 (k + 1)) := rfl
            have hip : (Tryd.prog.info? 58).map (·.size) = some (K .i64 (prA (16 * k) 2)).size := by unfold prA; rw [K_size, mkL_length]; kernel_rfl
            have HIP := TW.hide hip
            have hpe : (prA (16 * k) 2) = mkL 16 (fun i => (((16 * k + 2 * (i / 2) + i % 2 : Nat)) : Int)) := rfl
            have HPE := TW.hide hpe
            generalize (prA (16 * k) 2) = PS at *
            generalize hzk : rwT z0 (k + 1) = zn at *
            have HZN := TW.hide hzk
            generalize rwT z0 k = zk at *
            clear hlz hpp hlt hip hpe hzk hk
            have n0 := heap_new wr (.cells (K .i64 (List.replicate 16 0)) 58)
            have hb := (Below.refl wr.heap.size wr).alloc (Nat.le_refl _) (.cells (K .i64 (List.replicate 16 0)) 58)
            have hrs : w1.heap.size ≤ wr.heap.size := NB.out.size
            refine wp_seq_k fun Kc hKc => ?_
            have HKc := TW.hide hKc
            clear hKc
            go_wp2
            refine HKc.out _ _ ?_
            clear HKc Kc
            refine wp_seq_k fun Kj hKj => ?_
            have HKj := TW.hide hKj
            clear hKj
            refine wp_block ?_
            refine wp_seq_k fun Kx hK => ?_
            have HK := TW.hide hK
            clear hK
            go_wp2
            refine HK.out _ _ ?_
            clear HK Kx
            change Code.wp _ _ _ _ (wr.alloc (.cells (K .i64 (List.replicate 16 0)) 58))
            generalize wr.alloc (.cells (K .i64 (List.replicate 16 0)) 58) = X0 at *
            have E0 : Hid ((List.replicate 16 0 : List Int) = (mkL 16 (fun i => if i < 0 then (((16 * k + 2 * (i / 2) + i % 2 : Nat)) : Int) else 0))) := by show _ = _; rw [mkL_lo, mk0]
            have M0 : Hid (X0.heap[wr.heap.size]? = some (.cells (K .i64 (mkL 16 (fun i => if i < 0 then (((16 * k + 2 * (i / 2) + i % 2 : Nat)) : Int) else 0))) 58 (0, 0))) := by show _ = _; rw [← E0.out]; exact n0
            have MZ : Hid (World.ownsRow X0 w1.heap.size 22 1 (.slice (some ⟨gz, 0, none⟩) 128 cz) 128 ((zk).map (Value.int .u64))) := own_bel NZ.out hb
            have MB : Hid (Below w1.heap.size w1 X0) := NB.out.trans (hb.mono hrs)
            have hgl : gz < wr.heap.size := (NZ.out.lt gz rfl).2
            clear E0 n0 hb NZ NB
            generalize wr.heap.size = ga at *
            go_wp2
            go_loopw [14] (fun i wk => ∃ j : Nat, j ≤ 16 ∧ i = .int .i64 j ∧ Hid (wk.heap[ga]? = some (.cells (K .i64 (mkL 16 (fun i => if i < j then (((16 * k + 2 * (i / 2) + i % 2 : Nat)) : Int) else 0))) 58 (0, 0))) ∧ Hid (World.ownsRow wk w1.heap.size 22 1 (.slice (some ⟨gz, 0, none⟩) 128 cz) 128 ((zk).map (Value.int .u64))) ∧ Hid (Below w1.heap.size w1 wk)) (fun i _ => 16 - (intOf i).toNat)
            case atStart => exact ⟨0, Nat.zero_le _, rfl, M0, MZ, MB⟩
            case round =>
              clear M0 MZ MB
              obtain ⟨j, hj, rfl, M0, MZ, MB⟩ := hrel
              obtain ⟨wk, rfl⟩ : ∃ y, y = wr := ⟨_, rfl⟩
              by_cases hlj : j < 16
              · have x1 : (j : Int) < 16 := by omega
                have x0 : (0 : Int) ≤ (j : Int) := by omega
                have hc := blk_cellK M0.out (i := j) (by rw [mkL_length]; exact hlj)
                have hf := blk_frozen M0.out (i := j)
                rw [mkL_at _ _ hlj] at hc
                have hs := mkL_set (n := 16) (fun i => (((16 * k + 2 * (i / 2) + i % 2 : Nat)) : Int)) (fun _ => 0) hlj
                have hn := blk_setK (i := j) (x := (((16 * k + 2 * (j / 2) + j % 2 : Nat)) : Int)) M0.out
                have e1 : IntKind.i64.wrap (16 * (k : Int)) = 16 * (k : Int) := by have := HLT.out; rw [IntKind.wrap_i64]; omega
                have e2 : IntKind.i64.wrap (16 * (k : Int) + (j : Int)) = (((16 * k + 2 * (j / 2) + j % 2 : Nat)) : Int) := by have := HLT.out; rw [IntKind.wrap_i64]; omega
                obtain ⟨xv, hxv⟩ : ∃ xv, (((16 * k + 2 * (j / 2) + j % 2 : Nat)) : Int) = xv := ⟨_, rfl⟩
                rw [hxv] at hs hn e2
                have HS := TW.hide hs
                have HN := TW.hide hn
                have HLJ : Hid (j < 16) := hlj
                have HZ1 : Hid (World.ownsRow (wk.setCell ⟨ga, j, none⟩ (.int .i64 xv)) w1.heap.size 22 1 (.slice (some ⟨gz, 0, none⟩) 128 cz) 128 ((zk).map (Value.int .u64))) := MZ.out.kept ⟨rfl, rfl, rfl, by simp, fun i hi hne => by rw [heap_setCell_other _ _ _ _ (by intro h; exact hne (by rw [h]))]⟩ (row := some ga) (.inr (by intro h; have h9 : gz = ga := Option.some.inj h; omega))
                have HB1 : Hid (Below w1.heap.size w1 (wk.setCell ⟨ga, j, none⟩ (.int .i64 xv))) := MB.out.setCell (p := ⟨ga, j, none⟩) hrs _
                clear hs hn hxv hlj hj M0 MZ MB
                go_wp2
                go_roundw
                case rel => exact ⟨j + 1, HLJ.out, by go_num, by rw [← HS.out]; exact HN.out, HZ1, HB1⟩
                case measure => simp [intOf]; have := HLJ.out; omega
              · obtain rfl : j = 16 := by omega
                rw [mkL_hi, ← HPE.out] at M0
                clear hlj hj
                go_wp2_with (first | (refine wpList_load_row (by rfl) 58 _ (by rfl) ga (by rfl) 58 (K .i64 PS) (0, 0) _ M0.out Tryd.underlying58 rfl HIP.out ?_) | fail)
                refine (HTH.out wk cz gz MZ.out).mono ?_
                rintro e w3 ⟨rfl, hz3, hg3⟩
                rw [HNX.out] at hz3
                have QZ : Hid (World.ownsRow w3 w1.heap.size 22 1 (.slice (some ⟨gz, 0, none⟩) 128 cz) 128 ((zn).map (Value.int .u64))) := hz3
                have QB : Hid (Below w1.heap.size w1 w3) := MB.out.grown hg3 (Nat.le_trans hrs (Nat.le_of_lt (blk_lt M0.out))) (by intro q h; have h9 : gz = q := Option.some.inj h; have := (MZ.out.lt gz rfl).1; omega)
                clear hz3 hg3 M0 MZ MB HTH HNX
                go_wp2
                refine HKj.out _ _ ?_
                go_wp2
                go_roundw
                case rel => exact ⟨_, _, _, _, _, _, _, _, _, _, _, _, _, _, _, _, _, _, _, _, ⟨k + 1, HLT.out, by go_num, by rw [HZN.out]; exact QZ, QB⟩, rfl⟩
                case measure => simp [intOf]; have := HLT.out; omega
          · obtain rfl : k = 8 := by omega
            clear hlt hk
            go_wp2
            go_loopw [15] (fun i wr => ∃ k : Nat, k ≤ 8 ∧ i = .int .i64 k ∧ Hid (World.ownsRow wr w1.heap.size 22 1 (.slice (some ⟨gz, 0, none⟩) 128 cz) 128 (((clT (rwT z0 8) k)).map (Value.int .u64))) ∧ Hid (Below w1.heap.size w1 wr)) (fun i _ => 8 - (intOf i).toNat)
            case atStart => exact ⟨0, Nat.zero_le _, rfl, NZ, NB⟩
            case round =>
              clear NZ NB
              obtain ⟨k, hk, rfl, NZ, NB⟩ := hrel
              by_cases hlt : k < 8
              · have q1 : (k : Int) < 8 := by omega
                have q0 : (0 : Int) ≤ (k : Int) := by omega
                have HLT : Hid (k < 8) := hlt
                have hlz : (clT (rwT z0 8) k).length = 128 := by rw [clT_length, rwT_length, HWL.out]
                have hpp : ∀ i, i < 16 → ∃ p : Nat, p < 128 ∧ (prA (2 * k) 16).getD i 0 = (p : Int) := fun i hi => ⟨2 * k + 16 * (i / 2) + i % 2, by omega, by unfold prA; rw [mkL_getD _ hi]⟩
                have HTH := TW.hide (fun X cz gz hX => rput (clT (rwT z0 8) k) (prA (2 * k) 16) w1.heap.size gz cz X hlz (clT_Ws (rwT_Ws HWS.out 8) k) (mkL_length _ _) hpp hX)
                have HNX : Hid (thL (clT (rwT z0 8) k) (prA (2 * k) 16) = clT (rwT z0 8) (k + 1)) := rfl
                have hip : (Tryd.prog.info? 58).map (·.size) = some (K .i64 (prA (2 * k) 16)).size := by unfold prA; rw [K_size, mkL_length]; kernel_rfl
                have HIP := TW.hide hip
                have hpe : (prA (2 * k) 16) = mkL 16 (fun i => (((2 * k + 16 * (i / 2) + i % 2 : Nat)) : Int)) := rfl
                have HPE := TW.hide hpe
                generalize (prA (2 * k) 16) = PS at *
                generalize hzk : clT (rwT z0 8) (k + 1) = zn at *
                have HZN := TW.hide hzk
                generalize clT (rwT z0 8) k = zk at *
                clear hlz hpp hlt hip hpe hzk hk
                have n0 := heap_new wr (.cells (K .i64 (List.replicate 16 0)) 58)
                have hb := (Below.refl wr.heap.size wr).alloc (Nat.le_refl _) (.cells (K .i64 (List.replicate 16 0)) 58)
                have hrs : w1.heap.size ≤ wr.heap.size := NB.out.size
                refine wp_seq_k fun Kc hKc => ?_
                have HKc := TW.hide hKc
                clear hKc
                go_wp2
                refine HKc.out _ _ ?_
                clear HKc Kc
                refine wp_seq_k fun Kj hKj => ?_
                have HKj := TW.hide hKj
                clear hKj
                refine wp_block ?_
                refine wp_seq_k fun Kx hK => ?_
                have HK := TW.hide hK
                clear hK
                go_wp2
                refine HK.out _ _ ?_
                clear HK Kx
                change Code.wp _ _ _ _ (wr.alloc (.cells (K .i64 (List.replicate 16 0)) 58))
                generalize wr.alloc (.cells (K .i64 (List.replicate 16 0)) 58) = X0 at *
                have E0 : Hid ((List.replicate 16 0 : List Int) = (mkL 16 (fun i => if i < 0 then (((2 * k + 16 * (i / 2) + i % 2 : Nat)) : Int) else 0))) := by show _ = _; rw [mkL_lo, mk0]
                have M0 : Hid (X0.heap[wr.heap.size]? = some (.cells (K .i64 (mkL 16 (fun i => if i < 0 then (((2 * k + 16 * (i / 2) + i % 2 : Nat)) : Int) else 0))) 58 (0, 0))) := by show _ = _; rw [← E0.out]; exact n0
                have MZ : Hid (World.ownsRow X0 w1.heap.size 22 1 (.slice (some ⟨gz, 0, none⟩) 128 cz) 128 ((zk).map (Value.int .u64))) := own_bel NZ.out hb
                have MB : Hid (Below w1.heap.size w1 X0) := NB.out.trans (hb.mono hrs)
                have hgl : gz < wr.heap.size := (NZ.out.lt gz rfl).2
                clear E0 n0 hb NZ NB
                generalize wr.heap.size = ga at *
                go_wp2
                go_loopw [17] (fun i wk => ∃ j : Nat, j ≤ 16 ∧ i = .int .i64 j ∧ Hid (wk.heap[ga]? = some (.cells (K .i64 (mkL 16 (fun i => if i < j then (((2 * k + 16 * (i / 2) + i % 2 : Nat)) : Int) else 0))) 58 (0, 0))) ∧ Hid (World.ownsRow wk w1.heap.size 22 1 (.slice (some ⟨gz, 0, none⟩) 128 cz) 128 ((zk).map (Value.int .u64))) ∧ Hid (Below w1.heap.size w1 wk)) (fun i _ => 16 - (intOf i).toNat)
                case atStart => exact ⟨0, Nat.zero_le _, rfl, M0, MZ, MB⟩
                case round =>
                  clear M0 MZ MB
                  obtain ⟨j, hj, rfl, M0, MZ, MB⟩ := hrel
                  obtain ⟨wk, rfl⟩ : ∃ y, y = wr := ⟨_, rfl⟩
                  by_cases hlj : j < 16
                  · have x1 : (j : Int) < 16 := by omega
                    have x0 : (0 : Int) ≤ (j : Int) := by omega
                    have hc := blk_cellK M0.out (i := j) (by rw [mkL_length]; exact hlj)
                    have hf := blk_frozen M0.out (i := j)
                    rw [mkL_at _ _ hlj] at hc
                    have hs := mkL_set (n := 16) (fun i => (((2 * k + 16 * (i / 2) + i % 2 : Nat)) : Int)) (fun _ => 0) hlj
                    have hn := blk_setK (i := j) (x := (((2 * k + 16 * (j / 2) + j % 2 : Nat)) : Int)) M0.out
                    obtain ⟨h2, hh2⟩ : ∃ h, j / 2 = h := ⟨_, rfl⟩
                    obtain ⟨r2, hr2⟩ : ∃ h, j % 2 = h := ⟨_, rfl⟩
                    have e0 : (j : Int).tdiv 2 = (h2 : Int) := by rw [Int.tdiv_eq_ediv_of_nonneg (by omega)]; omega
                    have e00 : (j : Int).tmod 2 = (r2 : Int) := by rw [Int.tmod_eq_emod_of_nonneg (by omega)]; omega
                    obtain ⟨tk, htk⟩ : ∃ t, 2 * (k : Int) = t := ⟨_, rfl⟩
                    obtain ⟨th, hth⟩ : ∃ t, 16 * (h2 : Int) = t := ⟨_, rfl⟩
                    obtain ⟨ts, hts⟩ : ∃ t, tk + th = t := ⟨_, rfl⟩
                    have e2 : IntKind.i64.wrap (ts + (r2 : Int)) = (((2 * k + 16 * (j / 2) + j % 2 : Nat)) : Int) := by have := HLT.out; rw [IntKind.wrap_i64]; omega
                    have e1 : IntKind.i64.wrap (2 * (k : Int)) = tk := by have := HLT.out; rw [IntKind.wrap_i64]; omega
                    have e3 : IntKind.i64.wrap (16 * (h2 : Int)) = th := by rw [IntKind.wrap_i64]; omega
                    have e4 : IntKind.i64.wrap (tk + th) = ts := by have := HLT.out; rw [IntKind.wrap_i64]; omega
                    have i1 : IntKind.i64.wrap (h2 : Int) = (h2 : Int) := by rw [IntKind.wrap_i64]; omega
                    have i2 : IntKind.i64.wrap (r2 : Int) = (r2 : Int) := by rw [IntKind.wrap_i64]; omega
                    clear htk hth hts hh2 hr2
                    obtain ⟨xv, hxv⟩ : ∃ xv, (((2 * k + 16 * (j / 2) + j % 2 : Nat)) : Int) = xv := ⟨_, rfl⟩
                    rw [hxv] at hs hn e2
                    have HS := TW.hide hs
                    have HN := TW.hide hn
                    have HLJ : Hid (j < 16) := hlj
                    have HZ1 : Hid (World.ownsRow (wk.setCell ⟨ga, j, none⟩ (.int .i64 xv)) w1.heap.size 22 1 (.slice (some ⟨gz, 0, none⟩) 128 cz) 128 ((zk).map (Value.int .u64))) := MZ.out.kept ⟨rfl, rfl, rfl, by simp, fun i hi hne => by rw [heap_setCell_other _ _ _ _ (by intro h; exact hne (by rw [h]))]⟩ (row := some ga) (.inr (by intro h; have h9 : gz = ga := Option.some.inj h; omega))
                    have HB1 : Hid (Below w1.heap.size w1 (wk.setCell ⟨ga, j, none⟩ (.int .i64 xv))) := MB.out.setCell (p := ⟨ga, j, none⟩) hrs _
                    clear hs hn hxv hlj hj M0 MZ MB
                    go_wp2
                    go_roundw
                    case rel => exact ⟨j + 1, HLJ.out, by go_num, by rw [← HS.out]; exact HN.out, HZ1, HB1⟩
                    case measure => simp [intOf]; have := HLJ.out; omega
                  · obtain rfl : j = 16 := by omega
                    rw [mkL_hi, ← HPE.out] at M0
                    clear hlj hj
                    go_wp2_with (first | (refine wpList_load_row (by rfl) 58 _ (by rfl) ga (by rfl) 58 (K .i64 PS) (0, 0) _ M0.out Tryd.underlying58 rfl HIP.out ?_) | fail)
                    refine (HTH.out wk cz gz MZ.out).mono ?_
                    rintro e w3 ⟨rfl, hz3, hg3⟩
                    rw [HNX.out] at hz3
                    have QZ : Hid (World.ownsRow w3 w1.heap.size 22 1 (.slice (some ⟨gz, 0, none⟩) 128 cz) 128 ((zn).map (Value.int .u64))) := hz3
                    have QB : Hid (Below w1.heap.size w1 w3) := MB.out.grown hg3 (Nat.le_trans hrs (Nat.le_of_lt (blk_lt M0.out))) (by intro q h; have h9 : gz = q := Option.some.inj h; have := (MZ.out.lt gz rfl).1; omega)
                    clear hz3 hg3 M0 MZ MB HTH HNX
                    go_wp2
                    refine HKj.out _ _ ?_
                    go_wp2
                    go_roundw
                    case rel => exact ⟨_, _, _, _, _, _, _, _, _, _, _, _, _, _, _, _, _, _, _, _, _, _, _, _, _, ⟨k + 1, HLT.out, by go_num, by rw [HZN.out]; exact QZ, QB⟩, rfl⟩
                    case measure => simp [intOf]; have := HLT.out; omega
              · obtain rfl : k = 8 := by omega
                clear hlt hk
                have HNZ : Hid (World.ownsRow wr w1.heap.size 22 1 (.slice (some ⟨gz, 0, none⟩) 128 cz) 128 (((rcL z0)).map (Value.int .u64))) := NZ
                have HZL : Hid ((rcL z0).length = 128) := by show _ = _; rw [rcL_length, HWL.out]
                have HZW : Hid (Ws (rcL z0)) := rcL_Ws HWS.out
                have HBw4 : Hid (Below w.heap.size w wr) := HBw.out.trans (NB.out.mono HBw.out.size)
                have HR4 : Hid (∀ X, Below wr.heap.size wr X → Row X ar r) := fun X hX => HRr.out X (NB.out.trans (hX.mono NB.out.size))
                have hgz4 : gz < wr.heap.size := (NZ.out.lt gz rfl).2
                clear NZ NB HRr HWS HWL
                generalize rcL z0 = zf at *
                have HZ4 : Hid (∀ X, Below wr.heap.size wr X → World.ownsRow X w1.heap.size 22 1 (.slice (some ⟨gz, 0, none⟩) 128 cz) 128 ((zf).map (Value.int .u64))) := fun X hX => own_bel HNZ.out hX
                clear HNZ
                generalize hw4 : wr = w4 at *
                clear hw4
                go_wp2
                go_loopw [18, 19] (fun bv i wr => ∃ k : Nat, k ≤ 128 ∧ i = .int .i64 k ∧ Hid (wr.ownsRow w4.heap.size 5 1 bv (8 * k) (vs (byT zf k))) ∧ Hid (Below w4.heap.size w4 wr)) (fun bv i _ => 128 - (intOf i).toNat)
                case atStart => exact ⟨0, Nat.zero_le _, rfl, World.ownsRow_nil _ _ _ _, Below.refl _ _⟩
                case round =>
                  obtain ⟨k, hk, rfl, HO, NB⟩ := hrel
                  obtain ⟨wk, rfl⟩ : ∃ y, y = wr := ⟨_, rfl⟩
                  by_cases hlt : k < 128
                  · have q1 : (k : Int) < 128 := by omega
                    have q0 : (0 : Int) ≤ (k : Int) := by omega
                    have hc := zcell (HZ4.out wk NB.out) k hlt HZL.out
                    have hw := HZW.out.get k
                    have hst := rstore (zf.getD k 0) 8 wk hw.1 hw.2 (by decide)
                    have HBT : Hid (vs (byT zf (k + 1)) = vs (byT zf k) ++ vs (un (zf.getD k 0) 8)) := by show _ = _; rw [byT, vs_append]
                    generalize zf.getD k 0 = xk at *
                    have HST := TW.hide hst
                    have HLT : Hid (k < 128) := hlt
                    clear hst hw hlt hk
                    go_wp2_with fail
                    refine HST.out.mono ?_
                    rintro e w5 ⟨ra, rc, rfl, hrow, hb5⟩
                    have HO5 : Hid (w5.ownsRow w4.heap.size 5 1 u18 (8 * k) (vs (byT zf k))) := own_bel HO.out hb5
                    have NB5 : Hid (Below w4.heap.size w4 w5) := NB.out.trans (hb5.mono NB.out.size)
                    have HS5 : Hid (w4.heap.size ≤ w5.heap.size) := NB5.out.size
                    rcases hrow with h0 | ⟨rb, ro, rfl, hrc⟩
                    · exact absurd (congrArg List.length h0) (by rw [un_length]; decide)
                    have HRW : Hid (Row w5 (some ⟨rb, ro, none⟩) (un xk 8)) := .inr ⟨rb, ro, rfl, hrc⟩
                    clear hrc hb5 HO NB
                    have HC := TW.hide (row_cells HRW.out (Below.refl _ _))
                    have HOC := TW.hide (oneCell_vs (un xk 8))
                    go_wp2_with (at_builtin; refine wpList_append_own _ rfl _ _ 31 rfl w4.heap.size 5 i5 (.int .u8 0) 1 1 Tryd.underlying31 hi5 hz50 hz51 hz52 rfl (by decide) _ _ _ rfl HO5.out ⟨rb, ro, none⟩ 8 rc (vs (un xk 8)) rfl (by rw [vs_length, un_length]) HC.out HOC.out (by have := HLT.out; unfold maxLen; omega) (by have := HLT.out; omega) HS5.out ?_; intro v' w6 hown' hgrow' _; have HO6 := TW.hide hown'; have HG6 := TW.hide hgrow'; clear hown' hgrow')
                    have NB6 : Hid (Below w4.heap.size w4 w6) := NB5.out.grown HG6.out HS5.out (own_block HO5.out)
                    clear HO5 NB5 HS5 HRW HC HOC HG6
                    go_wp2
                    go_roundw
                    case rel => exact ⟨_, _, _, _, _, _, _, _, _, _, _, _, _, ⟨k + 1, HLT.out, by go_num, by rw [HBT.out]; exact HO6.out, NB6⟩, rfl⟩
                    case measure => simp [intOf]; have := HLT.out; omega
                  · obtain rfl : k = 128 := by omega
                    have ho2 : wk.ownsRow w4.heap.size 5 1 u18 (byL zf).length (vs (byL zf)) := by rw [byL_length]; exact HO.out
                    obtain ⟨ab, cb, rfl, hrowb, _⟩ := row_of_own ho2
                    have hxo := rxor ar cr r ab cb (byL zf) wk HRB.out (HR4.out wk NB.out) (byL_Byt zf) hrowb
                    have hok : (decide (r.length = 1024) && decide ((byL zf).length = 1024)) = true := by rw [HRL.out, byL_length]; rfl
                    rw [hok, HRL.out, byL_length] at hxo
                    unfold AnU at hxo
                    simp only [if_true, xbL_length] at hxo
                    rw [byL_length]
                    have HXO := TW.hide hxo
                    have NW : Hid (Below w.heap.size w wk) := HBw4.out.trans (NB.out.mono HBw4.out.size)
                    clear hxo hok ho2 hrowb HO NB hlt hk
                    go_wp2_with fail
                    refine HXO.out.mono ?_
                    rintro e w9 ⟨v, rfl, ho, hb⟩
                    have HQ : AnU w true (xbL r (byL zf)) (.returned (.tuple #[v, .int .i64 0])) w9 := ⟨v, rfl, by simp only [if_true, xbL_length]; exact own_low ho NW.out.size, NW.out.trans (hb.mono NW.out.size)⟩
                    clear ho hb
                    go_wp2
                    rw [← HMB.out] at HQ
                    exact bodyPost_ret (v := .tuple #[v, .int .i64 0]) (by simp [results, Tryd.results15, go_sem]) rfl HQ
end LW
end Go.Proofs.YtkgemkfajkcgcaaDoor
