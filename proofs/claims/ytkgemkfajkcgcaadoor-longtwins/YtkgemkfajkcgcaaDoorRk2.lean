/-
  Words at places go through Perm: the document's put.
-/
import Derived.Test.YtkgemkfajkcgcaaDoorRk1
import Derived.Test.YtkgemkfajkcgcaaDoorRPrm
namespace Go.Proofs.YtkgemkfajkcgcaaDoor
open Go.RowKit
set_option linter.unusedVariables false
set_option linter.unusedSimpArgs false
set_option maxRecDepth 100000
namespace LW
open Turn
open Words
attribute [local go_sem ↓] Go.wp_at_zero Go.wp_at_succ
theorem zcell {w : World} {B0 gz cz : Nat} {zz : List Int} (h : World.ownsRow w B0 22 1 (.slice (some ⟨gz, 0, none⟩) 128 cz) 128 ((zz).map (Value.int .u64))) (p : Nat) (hp : p < 128) (hl : zz.length = 128) : w.cell? ⟨gz, p, none⟩ = some (.int .u64 (zz.getD p 0)) := by
  rw [h.cellAt p (by omega), List.getElem?_map, List.getElem?_eq_getElem (by omega), List.getD_eq_getElem?_getD, List.getElem?_eq_getElem (by omega)]
  rfl
theorem zstore {w : World} {B0 gz cz : Nat} {zz : List Int} (h : World.ownsRow w B0 22 1 (.slice (some ⟨gz, 0, none⟩) 128 cz) 128 ((zz).map (Value.int .u64))) (p : Nat) (x : Int) : World.ownsRow (w.setCell ⟨gz, p, none⟩ (.int .u64 x)) B0 22 1 (.slice (some ⟨gz, 0, none⟩) 128 cz) 128 (((zz.set p x)).map (Value.int .u64)) := by
  have := (h.stored p (.int .u64 x)).1
  rw [List.map_set]
  exact this
set_option maxHeartbeats 4000000 in
theorem rput (z PS : List Int) (B0 gz cz : Nat) (w : World) (lz : z.length = 128) (hz : Ws z) (lP : PS.length = 16) (hP : ∀ i, i < 16 → ∃ p : Nat, p < 128 ∧ PS.getD i 0 = (p : Int)) (hg : World.ownsRow w B0 22 1 (.slice (some ⟨gz, 0, none⟩) 128 cz) 128 ((z).map (Value.int .u64))) :
    Calls Tryd.prog 32 #[.slice (some ⟨gz, 0, none⟩) 128 cz, .agg (K .i64 PS)] w fun e w' => e = .returned (.tuple #[]) ∧ World.ownsRow w' B0 22 1 (.slice (some ⟨gz, 0, none⟩) 128 cz) 128 (((thL z PS)).map (Value.int .u64)) ∧ w.grownBy w' (some gz) := by
  have hgl : gz < w.heap.size := (hg.lt gz rfl).2
  have hPm := fun W => rperm (gaL z PS) W (gaL_length z PS) (gaL_Ws PS hz)
  unfold thL
  have HPW : Hid (Ws (pmL (gaL z PS)) ∧ (pmL (gaL z PS)).length = 16) := ⟨pmL_Ws (gaL_Ws PS hz), by rw [pmL_length, gaL_length]⟩
  have hb := (((Below.refl w.heap.size w).alloc (Nat.le_refl _) (.cells (K .i64 PS) 58)).alloc (by simp; try omega) (.cells (K .u64 (List.replicate 16 0)) 23))
  have n0 := (blk_alloc (o' := .cells (K .u64 (List.replicate 16 0)) 23) (heap_new w (.cells (K .i64 PS) 58)))
  have n1 := (heap_new (w.alloc (.cells (K .i64 PS) 58)) (.cells (K .u64 (List.replicate 16 0)) 23))
  rw [show (w.alloc (.cells (K .i64 PS) 58)).heap.size = w.heap.size + 1 by simp] at n1
  have e0 : (List.replicate 16 0 : List Int) = (mkL 16 (fun i => if i < 0 then z.getD (PS.getD i 0).toNat 0 else 0)) := by rw [mkL_lo, mk0]
  go_enter Tryd.func32, Tryd.ntmps32
  refine wp_seq_k fun Kx hK => ?_
  have HK := TW.hide hK
  clear hK
  refine wp_region_lit ?_
  refine Great.wpList_runTo rfl _ rfl (.pointer (some ⟨w.heap.size, 0, none⟩)) (w.alloc (.cells (K .i64 PS) 58)) (by kernel_rfl) ?_
  simp only [Act.put, List.setIfInBounds_toArray, List.set_cons_zero, List.set_cons_succ]
  refine wpList_nil ?_
  refine HK.out _ _ ?_
  clear HK Kx
  refine wp_seq_k fun Kx hK => ?_
  have HK := TW.hide hK
  clear hK
  refine wp_region_lit ?_
  refine Great.wpList_runTo rfl _ rfl (.pointer (some ⟨(w.alloc (.cells (K .i64 PS) 58)).heap.size, 0, none⟩)) ((w.alloc (.cells (K .i64 PS) 58)).alloc (.cells (K .u64 (List.replicate 16 0)) 23)) (by kernel_rfl) ?_
  simp only [Act.put, List.setIfInBounds_toArray, List.set_cons_zero, List.set_cons_succ]
  rw [show (w.alloc (.cells (K .i64 PS) 58)).heap.size = w.heap.size + 1 by simp]
  generalize hWW : (w.alloc (.cells (K .i64 PS) 58)).alloc (.cells (K .u64 (List.replicate 16 0)) 23) = W at hb n0 n1 ⊢
  have hW : W.heap.size = w.heap.size + 1 + 1 := by rw [← hWW]; simp
  clear hWW
  refine wpList_nil ?_
  refine HK.out _ _ ?_
  clear HK Kx
  have NZ : Hid (World.ownsRow W B0 22 1 (.slice (some ⟨gz, 0, none⟩) 128 cz) 128 ((z).map (Value.int .u64))) := own_bel hg hb
  generalize hB : w.heap.size = B at *
  have HGB : Hid (∀ X, Below B w X → B ≤ X.heap.size → w.grownBy X (some gz)) := fun X hX hs => ⟨hX.os, hX.tape, hX.output, by rw [hB]; exact hs, fun k hk _ => hX.block k (by omega)⟩
  have H0 := TW.hide n0
  have H1 := TW.hide n1
  have HB := TW.hide hb
  have E0 := TW.hide e0
  clear n0 n1 hb e0
  clear hW hg
  go_wp2
  go_loopw [5] (fun i wr => ∃ k : Nat, k ≤ 16 ∧ i = .int .i64 k ∧ Hid (wr.heap[B + 1]? = some (.cells (K .u64 (mkL 16 (fun i => if i < k then z.getD (PS.getD i 0).toNat 0 else 0))) 23 (0, 0))) ∧ Hid (wr.heap[B]? = some (.cells (K .i64 PS) 58 (0, 0))) ∧ Hid (World.ownsRow wr B0 22 1 (.slice (some ⟨gz, 0, none⟩) 128 cz) 128 ((z).map (Value.int .u64))) ∧ Hid (Below B w wr)) (fun i _ => 16 - (intOf i).toNat)
  case atStart => exact ⟨0, Nat.zero_le _, rfl, by rw [← E0.out]; exact H1.out, H0.out, NZ, HB.out⟩
  case round =>
    obtain ⟨k, hk, rfl, N1, N0, NZk, NB⟩ := hrel
    clear H0 H1 HB E0 NZ
    by_cases hlt : k < 16
    · obtain ⟨p, hp1, hp2⟩ := hP k hlt
      have hc := blk_cellK N1.out (i := k) (by rw [mkL_length]; exact hlt)
      have hf := blk_frozen N1.out (i := k)
      rw [mkL_at _ _ hlt] at hc
      have cP := blk_cellK N0.out (i := k) (by rw [lP]; exact hlt)
      rw [hp2] at cP
      have hzc := zcell NZk.out p hp1 lz
      have hs := mkL_set (n := 16) (fun i => z.getD (PS.getD i 0).toNat 0) (fun _ => 0) hlt
      have HN1 := blk_setK (i := k) (x := z.getD (PS.getD k 0).toNat 0) N1.out
      rw [hp2, Int.toNat_natCast] at hs HN1
      have HS := TW.hide hs
      have HN := TW.hide HN1
      clear hs HN1
      have q1 : (k : Int) < 16 := by omega
      have q0 : (0 : Int) ≤ (k : Int) := by omega
      have q2 : (p : Int) < 128 := by omega
      have q3 : (0 : Int) ≤ (p : Int) := by omega
      have HZ1 : Hid (World.ownsRow (wr.setCell ⟨B + 1, k, none⟩ (.int .u64 (z.getD p 0))) B0 22 1 (.slice (some ⟨gz, 0, none⟩) 128 cz) 128 ((z).map (Value.int .u64))) := NZk.out.kept ⟨rfl, rfl, rfl, by simp, fun j hj hne => by rw [heap_setCell_other _ _ _ _ (by intro h; exact hne (by rw [h]))]⟩ (row := some (B + 1)) (.inr (by intro h; have h9 : gz = B + 1 := Option.some.inj h; omega))
      generalize z.getD p 0 = zp at *
      clear hp1 hp2
      go_wp2
      go_roundw
      case rel => exact ⟨k + 1, by omega, by go_num, by rw [← HS.out]; exact HN.out, blk_other N0.out (by omega), HZ1, NB.out.setCell (p := ⟨B + 1, k, none⟩) (Nat.le_succ B) _⟩
      case measure => simp [intOf]; omega
    · obtain rfl : k = 16 := by omega
      rw [mkL_hi] at N1
      have hiv : (Tryd.prog.info? 23).map (·.size) = some (K .u64 (gaL z PS)).size := by rw [K_size, gaL_length]; kernel_rfl
      have hir : (Tryd.prog.info? 23).map (·.size) = some (K .u64 (pmL (gaL z PS))).size := by rw [K_size, HPW.out.2]; kernel_rfl
      have hio : (K .u64 (gaL z PS)).size = (K .u64 (pmL (gaL z PS))).size := by rw [K_size, K_size, HPW.out.2, gaL_length]
      have HIV := TW.hide hiv
      have HIR := TW.hide hir
      have HIO := TW.hide hio
      have HN1 : Hid (wr.heap[B + 1]? = some (.cells (K .u64 (gaL z PS)) 23 (0, 0))) := N1.out
      have HPm := TW.hide (hPm wr)
      clear hPm hiv hir hio N1
      generalize hga : gaL z PS = ga at *
      generalize hrs : pmL ga = rs at *
      have HRS : Hid (pmL (gaL z PS) = rs) := by show _ = _; rw [hga, hrs]
      clear hrs hga
      go_wp2_with (first | (refine wpList_load_row (by rfl) 23 _ (by rfl) (B + 1) (by rfl) 23 (K .u64 ga) (0, 0) _ HN1.out Tryd.underlying23 rfl HIV.out ?_) | fail)
      refine HPm.out.mono ?_
      rintro e w2 ⟨rfl, hb2⟩
      have hbs : B + 1 < wr.heap.size := blk_lt HN1.out
      have M1 : Hid (w2.heap[B + 1]? = some (.cells (K .u64 ga) 23 (0, 0))) := blk_keep HN1.out hb2
      have M0 : Hid (w2.heap[B]? = some (.cells (K .i64 PS) 58 (0, 0))) := blk_keep N0.out hb2
      have MZ : Hid (World.ownsRow w2 B0 22 1 (.slice (some ⟨gz, 0, none⟩) 128 cz) 128 ((z).map (Value.int .u64))) := own_bel NZk.out hb2
      have MB : Hid (Below B w w2) := NB.out.trans (hb2.mono (by omega))
      have hs2 : B + 1 < w2.heap.size := blk_lt M1.out
      clear hb2 N0 NZk NB HN1 HPm hbs
      go_wp2_with (first | (refine wpList_store_row (by rfl) 23 _ _ (by rfl) (B + 1) (K .u64 rs) (by rfl) (by rfl) 23 _ M1.out HIR.out HIO.out (K_one _ _) ?_) | fail)
      have T1 : Hid ((w2.setRow (B + 1) (K .u64 rs)).heap[B + 1]? = some (.cells (K .u64 rs) 23 (0, 0))) := setRow_heap _ _ _ _ _ _ M1.out
      have T0 : Hid ((w2.setRow (B + 1) (K .u64 rs)).heap[B]? = some (.cells (K .i64 PS) 58 (0, 0))) := by show _ = _; rw [setRow_other _ _ _ _ (by omega)]; exact M0.out
      have TB : Hid (Below B w (w2.setRow (B + 1) (K .u64 rs))) := below_setRow MB.out (Nat.le_succ B)
      have TZ : Hid (World.ownsRow (w2.setRow (B + 1) (K .u64 rs)) B0 22 1 (.slice (some ⟨gz, 0, none⟩) 128 cz) 128 ((z).map (Value.int .u64))) := MZ.out.kept ⟨rfl, rfl, rfl, by simp, fun j hj hne => setRow_other _ _ _ _ (by intro h; exact hne (by rw [h]))⟩ (row := some (B + 1)) (.inr (by intro h; have h9 : gz = B + 1 := Option.some.inj h; omega))
      have TG : Hid (w.grownBy (w2.setRow (B + 1) (K .u64 rs)) (some gz)) := HGB.out _ TB.out (by have := blk_lt T1.out; omega)
      clear M0 M1 MZ MB TB HGB hs2
      generalize w2.setRow (B + 1) (K .u64 rs) = w3 at *
      go_loopw [6] (fun i wk => ∃ k : Nat, k ≤ 16 ∧ i = .int .i64 k ∧ Hid (wk.heap[B + 1]? = some (.cells (K .u64 rs) 23 (0, 0))) ∧ Hid (wk.heap[B]? = some (.cells (K .i64 PS) 58 (0, 0))) ∧ Hid (World.ownsRow wk B0 22 1 (.slice (some ⟨gz, 0, none⟩) 128 cz) 128 (((stN z PS rs k)).map (Value.int .u64))) ∧ Hid (w.grownBy wk (some gz))) (fun i _ => 16 - (intOf i).toNat)
      case atStart => exact ⟨0, Nat.zero_le _, rfl, T1, T0, TZ, TG⟩
      case round =>
        clear T1 T0 TZ TG
        obtain ⟨k, hk, rfl, N1, N0, NZk, NG⟩ := hrel
        obtain ⟨wk, rfl⟩ : ∃ y, y = wr := ⟨_, rfl⟩
        by_cases hlt : k < 16
        · obtain ⟨p, hp1, hp2⟩ := hP k hlt
          have cP := blk_cellK N0.out (i := k) (by rw [lP]; exact hlt)
          rw [hp2] at cP
          have cR := blk_cellK N1.out (i := k) (by rw [HPW.out.2]; exact hlt)
          have hsl : (stN z PS rs k).length = 128 := by rw [stN_length, lz]
          have HSS : Hid (stN z PS rs (k + 1) = (stN z PS rs k).set p (rs.getD k 0)) := by show _ = _; rw [stN, hp2, Int.toNat_natCast]
          have q1 : (k : Int) < 16 := by omega
          have q0 : (0 : Int) ≤ (k : Int) := by omega
          have q2 : (p : Int) < 128 := by omega
          have q3 : (0 : Int) ≤ (p : Int) := by omega
          generalize rs.getD k 0 = x at *
          have HSL := TW.hide hsl
          have HLT : Hid (k < 16) := hlt
          have HP1 : Hid (p < 128) := hp1
          clear hsl hp1 hp2 hlt hk
          refine wp_seq_k fun Kc hKc => ?_
          have HKc := TW.hide hKc
          clear hKc
          go_wp2
          refine HKc.out _ _ ?_
          clear HKc Kc
          refine wp_seq_k fun Kj hKj => ?_
          have HKj := TW.hide hKj
          clear hKj
          refine wp_block ?_
          have HCJ : Hid (∀ Z : World, Z.heap = wk.heap → Z.cell? ⟨B, k, none⟩ = some (.int .i64 p) ∧ Z.cell? ⟨B + 1, k, none⟩ = some (.int .u64 x)) := fun Z hZ => by
            simp only [World.cell?, hZ] at cP cR ⊢
            exact ⟨cP, cR⟩
          refine wp_region_noPanic ?_
          refine RG.wp_region_L (fun Z => Z.cell? ⟨B, k, none⟩ = some (.int .i64 p) ∧ Z.cell? ⟨B + 1, k, none⟩ = some (.int .u64 x)) (fun Z => True) [8] (by kernel_rfl) ?_
          refine RG.wpL_any fun Y0 hY => ?_
          have hYh : Y0.heap = wk.heap := by rw [hY]; rfl
          have M1 : Hid (Y0.heap[B + 1]? = some (.cells (K .u64 rs) 23 (0, 0))) := by show _ = _; rw [hYh]; exact N1.out
          have M0 : Hid (Y0.heap[B]? = some (.cells (K .i64 PS) 58 (0, 0))) := by show _ = _; rw [hYh]; exact N0.out
          have MZ : Hid (World.ownsRow Y0 B0 22 1 (.slice (some ⟨gz, 0, none⟩) 128 cz) 128 (((stN z PS rs k)).map (Value.int .u64))) := by rw [hY]; exact NZk.out
          have MG : Hid (w.grownBy Y0 (some gz)) := by rw [hY]; exact NG.out.trans ⟨rfl, rfl, rfl, Nat.le_refl _, fun _ _ _ => rfl⟩
          clear hY cP cR N0 N1 NZk NG
          refine RG.wpL_take (fuel := 1) (a' := ?A) [0, 1, 2, 3, 4, 5, 6, 7] (by kernel_rfl) (by kernel_rfl) (fun _ _ _ _ _ h => h) trivial (fun _ => HCJ.out _ hYh) ?r ?_
          case r =>
            iterate 3
              refine RG.RunsIf.weak (v := ?_) (by rfl) (by rfl) (fun Z hT => ?_) ?_
              rotate_left
              · go_simp
                rfl
              simp only [Act.put, List.setIfInBounds_toArray, List.set_cons_zero, List.set_cons_succ]
            iterate 1
              refine RG.RunsIf.strong (v := ?_) (by rfl) (by kernel_rfl) (by rfl) (fun Z hT hS => ?_) ?_
              rotate_left
              · go_simp
                rfl
              simp only [Act.put, List.setIfInBounds_toArray, List.set_cons_zero, List.set_cons_succ]
            iterate 2
              refine RG.RunsIf.weak (v := ?_) (by rfl) (by rfl) (fun Z hT => ?_) ?_
              rotate_left
              · go_simp
                rfl
              simp only [Act.put, List.setIfInBounds_toArray, List.set_cons_zero, List.set_cons_succ]
            iterate 1
              refine RG.RunsIf.strong (v := ?_) (by rfl) (by kernel_rfl) (by rfl) (fun Z hT hS => ?_) ?_
              rotate_left
              · go_simp
                rfl
              simp only [Act.put, List.setIfInBounds_toArray, List.set_cons_zero, List.set_cons_succ]
            iterate 1
              refine RG.RunsIf.weak (v := ?_) (by rfl) (by rfl) (fun Z hT => ?_) ?_
              rotate_left
              · go_simp
                rfl
              simp only [Act.put, List.setIfInBounds_toArray, List.set_cons_zero, List.set_cons_succ]
            exact RG.RunsIf.nil
          have c0 := zcell MZ.out p HP1.out HSL.out
          have f0 := MZ.out.frozenAt p
          refine RG.wpL_late (i := 8) (by kernel_rfl) (by rfl) (by rfl) (by kernel_rfl) (fun KX hK => ?_)
          have HK := TW.hide hK
          clear hK
          go_simp
          have QZ : Hid (World.ownsRow (Y0.setCell ⟨gz, p, none⟩ (.int .u64 x)) B0 22 1 (.slice (some ⟨gz, 0, none⟩) 128 cz) 128 (((stN z PS rs (k + 1))).map (Value.int .u64))) := by show World.ownsRow _ _ _ _ _ _ _; rw [HSS.out]; exact zstore MZ.out p x
          have Q1 : Hid ((Y0.setCell ⟨gz, p, none⟩ (.int .u64 x)).heap[B + 1]? = some (.cells (K .u64 rs) 23 (0, 0))) := blk_other M1.out (by omega)
          have Q0 : Hid ((Y0.setCell ⟨gz, p, none⟩ (.int .u64 x)).heap[B]? = some (.cells (K .i64 PS) 58 (0, 0))) := blk_other M0.out (by omega)
          have QG : Hid (w.grownBy (Y0.setCell ⟨gz, p, none⟩ (.int .u64 x)) (some gz)) := MG.out.trans ⟨rfl, rfl, rfl, by simp, fun j hj hne => by rw [heap_setCell_other _ _ _ _ (by intro h; exact hne (by rw [h]))]⟩
          refine HK.out _ _ trivial ?_
          clear HK KX c0 f0 M0 M1 MZ MG HCJ hYh
          generalize Y0.setCell ⟨gz, p, none⟩ (.int .u64 x) = Y1 at *
          refine RG.wpL_done (by kernel_rfl) ?_ _
          refine NoPanic.normal ?_
          refine HKj.out _ _ ?_
          clear HKj
          go_wp2
          go_roundw
          case rel => exact ⟨k + 1, HLT.out, by go_num, Q1, Q0, QZ, QG⟩
          case measure => simp [intOf]; have := HLT.out; omega
        · obtain rfl : k = 16 := by omega
          go_wp2
          have e := HRS.out
          subst e
          exact bodyPost_end (v := .tuple #[]) (by simp [results, Tryd.results32, go_sem]) rfl ⟨rfl, NZk.out, NG.out⟩
end LW
end Go.Proofs.YtkgemkfajkcgcaaDoor
