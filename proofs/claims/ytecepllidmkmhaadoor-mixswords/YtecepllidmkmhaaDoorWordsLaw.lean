/-
  What the law MixsWords does: Words, Start, IV and Bytes of the program answer as the document's, each answer is new memory, and what they are handed stays.
-/
import Derived.Test.YtecepllidmkmhaaDoorStartsB
import Derived.Test.YtecepllidmkmhaaDoorSpoilB
import Derived.Test.YtecepllidmkmhaaDoorWide
import Derived.Test.YtecepllidmkmhaaDoorEql
import Derived.Test.YtecepllidmkmhaaDoorOrder
namespace Go.Proofs.YtecepllidmkmhaaDoor
open Go.RowKit
set_option linter.unusedVariables false
set_option linter.unusedSimpArgs false
namespace MX
open Turn
attribute [local go_sem ↓] Go.wp_at_zero Go.wp_at_succ
open Words
def wR (zs : List Int) : List Int := if zs.length = 64 then wordsL zs 16 else List.replicate 16 0
theorem wR_length (zs : List Int) : (wR zs).length = 16 := by unfold wR; split; exact wordsL_length _ _; rfl
def sR (zs : List Int) : List Int := if zs.length = 32 then startL zs else List.replicate 8 0
theorem sR_length (zs : List Int) : (sR zs).length = 8 := by unfold sR; split; exact startL_length _; rfl
theorem wordsT (a : Option Addr) (cap : Nat) (zs : List Int) (w : World) (hz : Byt zs) (hr : LW.Row w a zs) :
    Calls Tryd.prog 9 #[.slice a zs.length cap] w fun e w' => e = .returned (.tuple #[.agg (K .u32 (wR zs)), .int .i64 (justE zs.length 64)]) ∧ Below w.heap.size w w' := by
  unfold wR
  by_cases h : zs.length = 64
  · rw [if_pos h, h, show justE 64 64 = 0 from rfl]
    exact wordsOk a cap zs w hz hr h
  · rw [if_neg h]
    exact wordsNo a cap zs.length w h
theorem rwordsT (a : Option Addr) (cap : Nat) (zs : List Int) (w : World) (hz : Byt zs) (hr : LW.Row w a zs) :
    Calls Tryd.prog 10 #[.slice a zs.length cap] w fun e w' => e = .returned (.tuple #[.agg (K .u32 (wR zs)), .int .i64 (justE zs.length 64)]) ∧ Below w.heap.size w w' := by
  unfold wR
  by_cases h : zs.length = 64
  · rw [if_pos h, h, show justE 64 64 = 0 from rfl]
    exact rwordsOk a cap zs w hz hr h
  · rw [if_neg h]
    exact rwordsNo a cap zs.length w h
theorem startT (a : Option Addr) (cap : Nat) (zs : List Int) (w : World) (ti : Tab w 0 .u32 ivL) (hz : Byt zs) (hr : LW.Row w a zs) :
    Calls Tryd.prog 11 #[.slice a zs.length cap] w fun e w' => e = .returned (.tuple #[.agg (K .u32 (sR zs)), .int .i64 (justE zs.length 32)]) ∧ Below w.heap.size w w' := by
  unfold sR
  by_cases h : zs.length = 32
  · rw [if_pos h, h, show justE 32 32 = 0 from rfl]
    exact startOk a cap zs w hz hr h ti
  · rw [if_neg h]
    exact startNo a cap zs.length w h
theorem rstartT (a : Option Addr) (cap : Nat) (zs : List Int) (w : World) (hz : Byt zs) (hr : LW.Row w a zs) :
    Calls Tryd.prog 12 #[.slice a zs.length cap] w fun e w' => e = .returned (.tuple #[.agg (K .u32 (sR zs)), .int .i64 (justE zs.length 32)]) ∧ Below w.heap.size w w' := by
  unfold sR
  by_cases h : zs.length = 32
  · rw [if_pos h, h, show justE 32 32 = 0 from rfl]
    exact rstartOk a cap zs w hz hr h
  · rw [if_neg h]
    exact rstartNo a cap zs.length w h
theorem own_grown5 {w w' : World} {B n g : Nat} {v : Value} {xs : List Value} (h : w.ownsRow B 5 1 v n xs) (hg : w.grownBy w' (some g)) (hlt : g < B) : w'.ownsRow B 5 1 v n xs := by
  rcases h.2 with ⟨rfl, h0⟩ | ⟨g', cap, cur, rfl, hb, hh, hn, hm, hc, ht⟩
  · exact ⟨h.1, .inl ⟨rfl, h0⟩⟩
  · exact ⟨h.1, .inr ⟨g', cap, cur, rfl, hb, grown_keep5 hh hg (fun e => by simp at e; omega), hn, hm, hc, ht⟩⟩
theorem own_self {w : World} {B n : Nat} {v : Value} {xs : List Value} (h : w.ownsRow B 5 1 v n xs) (hn : 0 < n) : ∃ g cap, v = .slice (some ⟨g, 0, none⟩) n cap ∧ B ≤ g ∧ g < w.heap.size ∧ n ≤ cap ∧ w.ownsRow g 5 1 v n xs := by
  rcases h.2 with ⟨rfl, h0⟩ | ⟨g, cap, cur, rfl, hb, hh, hn, hm, hc, ht⟩
  · omega
  · exact ⟨g, cap, rfl, hb, blk_lt hh, hn, h.1, .inr ⟨g, cap, cur, rfl, Nat.le_refl _, hh, hn, hm, hc, ht⟩⟩
theorem row_front {w : World} {a : Option Addr} {zs ys : List Int} (h : LW.Row w a (zs ++ ys)) : LW.Row w a zs := by
  rcases h with h | ⟨b, off, rfl, hc⟩
  · exact .inl (List.append_eq_nil_iff.1 h).1
  · refine .inr ⟨b, off, rfl, fun i hi => ?_⟩
    rw [hc i (by rw [List.length_append]; omega)]
    simp [List.getD_eq_getElem?_getD, List.getElem?_append_left hi]
theorem sizeB : (Tryd.prog.info? 5).map (·.size) = some 1 := by kernel_rfl
/-- The front of a slice. -/
theorem exec_front {P : Program} {o : Oper} {a : Act} {w : World} (t : TypeId) (x hi : Operand) (ho : o.op = .slice t x none (some hi) none) (b off len cap n : Nat) (H : Int) (e : TypeId) (hx : a.eval x = .slice (some ⟨b, off, none⟩) len cap)
    (hhi : a.eval hi = .int .i64 H) (hH : H = (n : Int)) (hc : n ≤ cap) (hu : P.underlying t = some (.slice e)) (hs : (P.info? e).map (·.size) = some 1) :
    (execOp a.eval o).run P w = .ok (.value (.slice (some ⟨b, off, none⟩) n cap)) w := by
  cases hq : P.info? e with
  | none => simp [hq] at hs
  | some ie =>
    have he : ie.size = 1 := by simpa [hq] using hs
    have hel : P.elem t = e := by simp [Program.elem, hu]
    have hu' : P.underlying t = some (.slice (P.elem t)) := by rw [hel]; exact hu
    have h1 : (Instr.sliceAt t (.slice (some ⟨b, off, none⟩) len cap) none (some (.int .i64 H)) none).run P w = .ok (.slice (some ⟨b, off, none⟩) n cap) w := by
      rw [run_sliceAt_slice w t _ _ _ _ hu', run_slice_h w t _ len cap hu' .i64 H (by omega) (by omega), hel]
      have e2 : H.toNat = n := by omega
      simp [sizeOf, typeInfo, hq, he, e2, sliced, Addr.add_mid]
    unfold execOp
    simp only [ho, hx, hhi, Option.map_some, Option.map_none, Sem.run_bind, h1, Result.andThen_ok, Sem.run_pure]
set_option maxRecDepth 100000 in
set_option maxHeartbeats 1000000 in
theorem wordsWalk (b : Option Addr) (cb : Nat) (xs : List Int) (d : Option Addr) (cd : Nat) (ys : List Int) (hs : List Int) (w : World) (ti : Tab w 0 .u32 ivL) (hx : Byt xs) (hrx : LW.Row w b xs) (hnx : b = none → cb = 0) (hcx : xs.length ≤ cb) (hbx : xs.length ≤ 140737488351232)
    (hy : Byt ys) (hry : LW.Row w d ys) (hny : d = none → cd = 0) (hcy : ys.length ≤ cd) (hby : ys.length ≤ 140737488351232) (hl : hs.length = 8) (hw : Ws hs) :
    Calls Tryd.prog 3 #[.slice b xs.length cb, .slice d ys.length cd, .agg (K .u32 hs)] w fun e w' => e = .returned (.bool true) ∧ Below w.heap.size w w' := by
  have ih := info8 hs hl
  have iW := info16 (wR xs) (wR_length _)
  have oW := size16 (List.replicate 16 0) (wR xs) rfl (wR_length _)
  have iS := info8 (sR ys) (sR_length _)
  have oS := size8 (List.replicate 8 0) (sR ys) rfl (sR_length _)
  have q1 := fun Z => eq16 Z (wR xs) (wR xs) (wR_length _) (wR_length _)
  have q2 := fun Z => eq8 Z (sR ys) (sR ys) (sR_length _) (sR_length _)
  have q3 := fun Z => eq8 Z ivL ivL rfl rfl
  simp only [decide_true] at q1 q2 q3
  have p0 := fun Y (h : LW.Row Y b xs) => wide b cb xs Y h hnx hbx
  have p1 := fun Y (h : LW.Row Y d ys) => wide d cd ys Y h hny hby
  have p2 := fun Y a c (h : LW.Row Y a xs) => wordsT a c xs Y hx h
  have p3 := fun Y (h : LW.Row Y b xs) => rwordsT b cb xs Y hx h
  have p4 := fun Y a c (hb : Below w.heap.size w Y) (h : LW.Row Y a ys) => startT a c ys Y (ti.below hb) hy h
  have p5 := fun Y (h : LW.Row Y d ys) => rstartT d cd ys Y hy h
  have p6 := fun Y (hb : Below w.heap.size w Y) => iv Y (ti.below hb)
  have p7 := fun Y => riv Y
  have p8 := fun Y => bytes hs Y hl hw
  have p9 := fun Y => rbytes hs Y hl hw
  have pa : ∀ Y a c a' c', LW.Row Y a (bytesL hs) → LW.Row Y a' (bytesL hs) → Calls Tryd.prog 18 #[.slice a 32 c, .slice a' 32 c'] Y fun e w' => e = .returned (.bool true) ∧ ∃ q, w' = Y.drewN q := fun Y a c a' c' r1 r2 => by
    have h := LW.lsame a a' c c' (bytesL hs) (bytesL hs) Y r1 r2 (by rw [bytesL_length, hl]; unfold maxLen; omega) (by rw [bytesL_length, hl]; unfold maxLen; omega)
    rw [bytesL_length, hl] at h
    simpa using h
  have pb := fun Y a c (h1 : LW.Row Y a (wideL xs)) (h2 : LW.Row Y b xs) => kept a b c cb xs Y h1 h2 hnx hbx
  have pc := fun Y a c (h1 : LW.Row Y a (wideL ys)) (h2 : LW.Row Y d ys) => kept a d c cd ys Y h1 h2 hny hby
  have hwx := wideL_length xs
  have hwy := wideL_length ys
  have hbl : (bytesL hs).length = 32 := by rw [bytesL_length, hl]
  generalize wR xs = WW at *
  generalize sR ys = SS at *
  generalize justE xs.length 64 = E1 at *
  generalize justE ys.length 32 = E2 at *
  clear ti hx hnx hcx hy hny hcy hl hw
  obtain ⟨lx, hlx⟩ : ∃ l, xs.length = l := ⟨_, rfl⟩
  obtain ⟨ly, hly⟩ : ∃ l, ys.length = l := ⟨_, rfl⟩
  rw [hlx] at p0 p2 p3 pb hwx hbx ⊢
  rw [hly] at p1 p4 p5 pc hwy hby ⊢
  clear hlx hly
  have IH := TW.hide ih
  have IW := TW.hide iW
  have OW := TW.hide oW
  have IS := TW.hide iS
  have OS := TW.hide oS
  have Q1 := TW.hide q1
  have Q2 := TW.hide q2
  have Q3 := TW.hide q3
  have HRX := TW.hide hrx
  have HRY := TW.hide hry
  have HWX := TW.hide hwx
  have HWY := TW.hide hwy
  have HBL := TW.hide hbl
  have P0 := TW.hide p0
  have P1 := TW.hide p1
  have P2 := TW.hide p2
  have P3 := TW.hide p3
  have P4 := TW.hide p4
  have P5 := TW.hide p5
  have P6 := TW.hide p6
  have P7 := TW.hide p7
  have P8 := TW.hide p8
  have P9 := TW.hide p9
  have Pa := TW.hide pa
  have Pb := TW.hide pb
  have Pc := TW.hide pc
  clear ih iW oW iS oS q1 q2 q3 hrx hry hwx hwy hbl p0 p1 p2 p3 p4 p5 p6 p7 p8 p9 pa pb pc
  have hb := ((Below.refl w.heap.size w).alloc (Nat.le_refl _) (.cells (K .u32 hs) 24))
  have n0 := (heap_new w (.cells (K .u32 hs) 24))
  go_enter Tryd.func3, Tryd.ntmps3
  refine wp_seq_k fun K hK => ?_
  have HK := TW.hide hK
  clear hK
  go_wp2
  refine HK.out _ _ ?_
  clear HK K
  change Code.wp _ _ _ _ (w.alloc (.cells (K .u32 hs) 24))
  generalize hWW : w.alloc (.cells (K .u32 hs) 24) = W at hb n0 ⊢
  have hW : W.heap.size = w.heap.size + 1 := by rw [← hWW]; simp
  clear hWW
  generalize hB : w.heap.size = B at *
  have N0 := TW.hide n0
  have NB := TW.hide hb
  clear n0 hb
  clear hW
  refine wp_seq_k fun KK hK => ?_
  have HK := TW.hide hK
  clear hK
  go_wp2_with fail
  refine (P0.out _ (HRX.out.below (hB ▸ NB.out))).mono ?_
  rintro e u1 ⟨v1, rfl, hown1, hb1⟩
  have hBW : B < W.heap.size := blk_lt N0.out
  have U0 := TW.hide (blk_keep N0.out hb1)
  have UB : Hid (Below B w u1) := below_row NB.out hb1 (by omega)
  obtain ⟨gx, cx, rfl, _, hgx, hcx, _⟩ := own_self hown1 (by omega)
  rw [← HWX.out] at hown1
  have RX1 : Hid (LW.Row u1 (some ⟨gx, 0, none⟩) (wideL xs)) := by
    obtain ⟨x, cx', he, hrow, _⟩ := LW.row_of_own hown1
    simp only [Value.slice.injEq] at he
    rw [he.1]; exact hrow
  clear hown1 hb1 N0 NB
  go_wp2_with fail
  refine (P1.out _ (HRY.out.below (hB ▸ UB.out))).mono ?_
  rintro e wb ⟨v2, rfl, hown2, hb2⟩
  have hBU : B < u1.heap.size := blk_lt U0.out
  have N0 := TW.hide (blk_keep U0.out hb2)
  have NB0 : Hid (Below B w wb) := below_row UB.out hb2 (by omega)
  have RX := TW.hide (RX1.out.below hb2)
  obtain ⟨gy, cy, rfl, _, hgy, hcy, _⟩ := own_self hown2 (by omega)
  rw [← HWY.out] at hown2
  have RY : Hid (LW.Row wb (some ⟨gy, 0, none⟩) (wideL ys)) := by
    obtain ⟨x, cx', he, hrow, _⟩ := LW.row_of_own hown2
    simp only [Value.slice.injEq] at he
    rw [he.1]; exact hrow
  have R0X := TW.hide (HRX.out.below (hB ▸ NB0.out))
  have R0Y := TW.hide (HRY.out.below (hB ▸ NB0.out))
  clear hown2 hb2 U0 UB RX1
  go_wp2
  refine HK.out _ _ ?_
  clear HK KK
  have NN := N0
  have HBB : Hid (Below wb.heap.size wb wb) := Below.refl _ _
  have hBwb : B < wb.heap.size := blk_lt N0.out
  have hlx1 : lx ≤ cx := by omega
  have hly1 : ly ≤ cy := by omega
  refine wp_seq_k fun KK hK => ?_
  have HK := TW.hide hK
  clear hK
  go_wp2_with (first | (refine wpList_val (.slice (some ⟨gx, 0, none⟩) lx cx) (by rfl) (exec_front 22 _ _ (by rfl) gx 0 (lx + 70) cx lx _ 5 (by rfl) (by rfl) rfl hlx1 Tryd.underlying22 sizeB) ?_; simp only [Act.put, List.setIfInBounds_toArray, List.set_cons_zero, List.set_cons_succ, List.getElem_toArray, List.getElem_cons_zero, List.getElem_cons_succ]))
  refine (P2.out _ _ _ (row_front (RX.out.below HBB.out))).mono ?_
  rintro e w1 ⟨rfl, hb1⟩
  have N0' := TW.hide (blk_keep N0.out hb1)
  have HBB' : Hid (Below wb.heap.size wb w1) := below_row HBB.out hb1 (le_of_below HBB.out (by omega))
  clear hb1
  clear N0 HBB
  have N0 := N0'
  have HBB := HBB'
  clear N0' HBB'
  have hl_ga_N0 := blk_lt N0.out
  go_wp2_with (first | (refine wpList_store_row (by rfl) 26 _ _ (by rfl) w1.heap.size (K .u32 WW) (by rfl) (by rfl) 26 _ (heap_new w1 _) IW.out OW.out (K_one _ _) ?_))
  have n1 := setRow_heap _ _ _ (K .u32 WW) _ _ (heap_new w1 (.cells #[.int .u32 0, .int .u32 0, .int .u32 0, .int .u32 0, .int .u32 0, .int .u32 0, .int .u32 0, .int .u32 0, .int .u32 0, .int .u32 0, .int .u32 0, .int .u32 0, .int .u32 0, .int .u32 0, .int .u32 0, .int .u32 0] 26))
  have bx1 := below_setRow (cs := (K .u32 WW)) ((Below.refl w1.heap.size w1).alloc (Nat.le_refl _) (.cells #[.int .u32 0, .int .u32 0, .int .u32 0, .int .u32 0, .int .u32 0, .int .u32 0, .int .u32 0, .int .u32 0, .int .u32 0, .int .u32 0, .int .u32 0, .int .u32 0, .int .u32 0, .int .u32 0, .int .u32 0, .int .u32 0] 26)) (g := w1.heap.size) (Nat.le_refl _)
  generalize (w1.alloc (.cells #[.int .u32 0, .int .u32 0, .int .u32 0, .int .u32 0, .int .u32 0, .int .u32 0, .int .u32 0, .int .u32 0, .int .u32 0, .int .u32 0, .int .u32 0, .int .u32 0, .int .u32 0, .int .u32 0, .int .u32 0, .int .u32 0] 26)).setRow w1.heap.size (K .u32 WW) = X1 at n1 bx1 ⊢
  have N0' := TW.hide (blk_keep N0.out bx1)
  have HBB' : Hid (Below wb.heap.size wb X1) := below_row HBB.out bx1 (le_of_below HBB.out (by omega))
  have NW := TW.hide n1
  clear n1 bx1
  clear N0 HBB
  have N0 := N0'
  have HBB := HBB'
  clear N0' HBB'
  generalize w1.heap.size = ga at *
  refine HK.out _ _ ?_
  clear HK KK
  refine wp_seq_k fun KK hK => ?_
  have HK := TW.hide hK
  clear hK
  go_wp2_with (fail)
  refine (P3.out _ (R0X.out.below HBB.out)).mono ?_
  rintro e w2 ⟨rfl, hb2⟩
  have N0' := TW.hide (blk_keep N0.out hb2)
  have NW' := TW.hide (blk_keep NW.out hb2)
  have HBB' : Hid (Below wb.heap.size wb w2) := below_row HBB.out hb2 (le_of_below HBB.out (by omega))
  clear hb2
  clear N0 NW HBB
  have N0 := N0'
  have NW := NW'
  have HBB := HBB'
  clear N0' NW' HBB'
  have hl_gb_N0 := blk_lt N0.out
  have hl_gb_NW := blk_lt NW.out
  go_wp2_with (first | (refine wpList_store_row (by rfl) 26 _ _ (by rfl) w2.heap.size (K .u32 WW) (by rfl) (by rfl) 26 _ (heap_new w2 _) IW.out OW.out (K_one _ _) ?_))
  have n2 := setRow_heap _ _ _ (K .u32 WW) _ _ (heap_new w2 (.cells #[.int .u32 0, .int .u32 0, .int .u32 0, .int .u32 0, .int .u32 0, .int .u32 0, .int .u32 0, .int .u32 0, .int .u32 0, .int .u32 0, .int .u32 0, .int .u32 0, .int .u32 0, .int .u32 0, .int .u32 0, .int .u32 0] 26))
  have bx2 := below_setRow (cs := (K .u32 WW)) ((Below.refl w2.heap.size w2).alloc (Nat.le_refl _) (.cells #[.int .u32 0, .int .u32 0, .int .u32 0, .int .u32 0, .int .u32 0, .int .u32 0, .int .u32 0, .int .u32 0, .int .u32 0, .int .u32 0, .int .u32 0, .int .u32 0, .int .u32 0, .int .u32 0, .int .u32 0, .int .u32 0] 26)) (g := w2.heap.size) (Nat.le_refl _)
  generalize (w2.alloc (.cells #[.int .u32 0, .int .u32 0, .int .u32 0, .int .u32 0, .int .u32 0, .int .u32 0, .int .u32 0, .int .u32 0, .int .u32 0, .int .u32 0, .int .u32 0, .int .u32 0, .int .u32 0, .int .u32 0, .int .u32 0, .int .u32 0] 26)).setRow w2.heap.size (K .u32 WW) = X2 at n2 bx2 ⊢
  have N0' := TW.hide (blk_keep N0.out bx2)
  have NW' := TW.hide (blk_keep NW.out bx2)
  have HBB' : Hid (Below wb.heap.size wb X2) := below_row HBB.out bx2 (le_of_below HBB.out (by omega))
  have NV := TW.hide n2
  clear n2 bx2
  clear N0 NW HBB
  have N0 := N0'
  have NW := NW'
  have HBB := HBB'
  clear N0' NW' HBB'
  generalize w2.heap.size = gb at *
  refine HK.out _ _ ?_
  clear HK KK
  refine wp_seq_k fun KK hK => ?_
  have HK := TW.hide hK
  clear hK
  have q := Q1.out X2
  go_wp2_with (first | (refine wpList_val (.agg (K .u32 WW)) (by rfl) (exec_load_row' 26 _ (by rfl) (ga) (by rfl) 26 (K .u32 WW) (0, 0) _ NW.out Tryd.underlying26 rfl IW.out) ?_) | (refine wpList_val (.agg (K .u32 WW)) (by rfl) (exec_load_row' 26 _ (by rfl) (gb) (by rfl) 26 (K .u32 WW) (0, 0) _ NV.out Tryd.underlying26 rfl IW.out) ?_))
  refine HK.out _ _ ?_
  clear HK KK q
  refine wp_seq_k fun KK hK => ?_
  have HK := TW.hide hK
  clear hK
  go_wp2_with (first | (refine wpList_val (.slice (some ⟨gy, 0, none⟩) ly cy) (by rfl) (exec_front 22 _ _ (by rfl) gy 0 (ly + 70) cy ly _ 5 (by rfl) (by rfl) rfl hly1 Tryd.underlying22 sizeB) ?_; simp only [Act.put, List.setIfInBounds_toArray, List.set_cons_zero, List.set_cons_succ, List.getElem_toArray, List.getElem_cons_zero, List.getElem_cons_succ]))
  refine (P4.out _ _ _ (hB ▸ (NB0.out.trans (HBB.out.mono (Nat.le_of_lt hBwb)))) (row_front (RY.out.below HBB.out))).mono ?_
  rintro e w3 ⟨rfl, hb3⟩
  have N0' := TW.hide (blk_keep N0.out hb3)
  have NW' := TW.hide (blk_keep NW.out hb3)
  have NV' := TW.hide (blk_keep NV.out hb3)
  have HBB' : Hid (Below wb.heap.size wb w3) := below_row HBB.out hb3 (le_of_below HBB.out (by omega))
  clear hb3
  clear N0 NW NV HBB
  have N0 := N0'
  have NW := NW'
  have NV := NV'
  have HBB := HBB'
  clear N0' NW' NV' HBB'
  have hl_gc_N0 := blk_lt N0.out
  have hl_gc_NW := blk_lt NW.out
  have hl_gc_NV := blk_lt NV.out
  go_wp2_with (first | (refine wpList_store_row (by rfl) 24 _ _ (by rfl) w3.heap.size (K .u32 SS) (by rfl) (by rfl) 24 _ (heap_new w3 _) IS.out OS.out (K_one _ _) ?_))
  have n3 := setRow_heap _ _ _ (K .u32 SS) _ _ (heap_new w3 (.cells #[.int .u32 0, .int .u32 0, .int .u32 0, .int .u32 0, .int .u32 0, .int .u32 0, .int .u32 0, .int .u32 0] 24))
  have bx3 := below_setRow (cs := (K .u32 SS)) ((Below.refl w3.heap.size w3).alloc (Nat.le_refl _) (.cells #[.int .u32 0, .int .u32 0, .int .u32 0, .int .u32 0, .int .u32 0, .int .u32 0, .int .u32 0, .int .u32 0] 24)) (g := w3.heap.size) (Nat.le_refl _)
  generalize (w3.alloc (.cells #[.int .u32 0, .int .u32 0, .int .u32 0, .int .u32 0, .int .u32 0, .int .u32 0, .int .u32 0, .int .u32 0] 24)).setRow w3.heap.size (K .u32 SS) = X3 at n3 bx3 ⊢
  have N0' := TW.hide (blk_keep N0.out bx3)
  have NW' := TW.hide (blk_keep NW.out bx3)
  have NV' := TW.hide (blk_keep NV.out bx3)
  have HBB' : Hid (Below wb.heap.size wb X3) := below_row HBB.out bx3 (le_of_below HBB.out (by omega))
  have NS := TW.hide n3
  clear n3 bx3
  clear N0 NW NV HBB
  have N0 := N0'
  have NW := NW'
  have NV := NV'
  have HBB := HBB'
  clear N0' NW' NV' HBB'
  generalize w3.heap.size = gc at *
  refine HK.out _ _ ?_
  clear HK KK
  refine wp_seq_k fun KK hK => ?_
  have HK := TW.hide hK
  clear hK
  go_wp2_with (fail)
  refine (P5.out _ (R0Y.out.below HBB.out)).mono ?_
  rintro e w4 ⟨rfl, hb4⟩
  have N0' := TW.hide (blk_keep N0.out hb4)
  have NW' := TW.hide (blk_keep NW.out hb4)
  have NV' := TW.hide (blk_keep NV.out hb4)
  have NS' := TW.hide (blk_keep NS.out hb4)
  have HBB' : Hid (Below wb.heap.size wb w4) := below_row HBB.out hb4 (le_of_below HBB.out (by omega))
  clear hb4
  clear N0 NW NV NS HBB
  have N0 := N0'
  have NW := NW'
  have NV := NV'
  have NS := NS'
  have HBB := HBB'
  clear N0' NW' NV' NS' HBB'
  have hl_gd_N0 := blk_lt N0.out
  have hl_gd_NW := blk_lt NW.out
  have hl_gd_NV := blk_lt NV.out
  have hl_gd_NS := blk_lt NS.out
  go_wp2_with (first | (refine wpList_store_row (by rfl) 24 _ _ (by rfl) w4.heap.size (K .u32 SS) (by rfl) (by rfl) 24 _ (heap_new w4 _) IS.out OS.out (K_one _ _) ?_))
  have n4 := setRow_heap _ _ _ (K .u32 SS) _ _ (heap_new w4 (.cells #[.int .u32 0, .int .u32 0, .int .u32 0, .int .u32 0, .int .u32 0, .int .u32 0, .int .u32 0, .int .u32 0] 24))
  have bx4 := below_setRow (cs := (K .u32 SS)) ((Below.refl w4.heap.size w4).alloc (Nat.le_refl _) (.cells #[.int .u32 0, .int .u32 0, .int .u32 0, .int .u32 0, .int .u32 0, .int .u32 0, .int .u32 0, .int .u32 0] 24)) (g := w4.heap.size) (Nat.le_refl _)
  generalize (w4.alloc (.cells #[.int .u32 0, .int .u32 0, .int .u32 0, .int .u32 0, .int .u32 0, .int .u32 0, .int .u32 0, .int .u32 0] 24)).setRow w4.heap.size (K .u32 SS) = X4 at n4 bx4 ⊢
  have N0' := TW.hide (blk_keep N0.out bx4)
  have NW' := TW.hide (blk_keep NW.out bx4)
  have NV' := TW.hide (blk_keep NV.out bx4)
  have NS' := TW.hide (blk_keep NS.out bx4)
  have HBB' : Hid (Below wb.heap.size wb X4) := below_row HBB.out bx4 (le_of_below HBB.out (by omega))
  have NT := TW.hide n4
  clear n4 bx4
  clear N0 NW NV NS HBB
  have N0 := N0'
  have NW := NW'
  have NV := NV'
  have NS := NS'
  have HBB := HBB'
  clear N0' NW' NV' NS' HBB'
  generalize w4.heap.size = gd at *
  refine HK.out _ _ ?_
  clear HK KK
  refine wp_seq_k fun KK hK => ?_
  have HK := TW.hide hK
  clear hK
  have q := Q2.out X4
  go_wp2_with (first | (refine wpList_val (.agg (K .u32 SS)) (by rfl) (exec_load_row' 24 _ (by rfl) (gc) (by rfl) 24 (K .u32 SS) (0, 0) _ NS.out Tryd.underlying24 rfl IS.out) ?_) | (refine wpList_val (.agg (K .u32 SS)) (by rfl) (exec_load_row' 24 _ (by rfl) (gd) (by rfl) 24 (K .u32 SS) (0, 0) _ NT.out Tryd.underlying24 rfl IS.out) ?_))
  clear q
  refine (P6.out _ (hB ▸ (NB0.out.trans (HBB.out.mono (Nat.le_of_lt hBwb))))).mono ?_
  rintro e w5 ⟨rfl, hb5⟩
  have H5 : Hid (Below wb.heap.size wb w5) := below_row HBB.out hb5 HBB.out.size
  clear hb5 HBB NW NV NS NT N0
  go_wp2_with fail
  refine (P7.out _).mono ?_
  rintro e w6 ⟨rfl, hb6⟩
  have HBB : Hid (Below wb.heap.size wb w6) := below_row H5.out hb6 H5.out.size
  clear hb6 H5
  have q := Q3.out w6
  go_wp2
  refine HK.out _ _ ?_
  clear HK KK q
  refine wp_seq_k fun KK hK => ?_
  have HK0 := TW.hide hK
  clear hK
  refine wp_region_noPanic ?_
  refine RG.wp_region_L (fun Z => True) (fun Z => Below wb.heap.size wb Z) [] (by kernel_rfl) ?_
  refine RG.wpL_any fun Ya hY => ?_
  have HTa : Hid (Below wb.heap.size wb Ya) := by rw [hY]; exact below_drewN HBB.out 1
  clear hY
  refine RG.wpL_take (fuel := 4) (a' := ?Aa) [0, 2] (by kernel_rfl) (by kernel_rfl) (fun _ _ _ _ _ h => h) HTa.out (fun _ => trivial) ?ra ?_
  case ra =>
    refine RG.RunsIf.weak (v := (.agg (K .u32 hs))) (by rfl) (by rfl) (fun Z hT => exec_load_row' 24 _ (by rfl) B (by rfl) 24 (K .u32 hs) (0, 0) _ (blk_keep NN.out hT) Tryd.underlying24 rfl IH.out) ?_
    simp only [Act.put, List.setIfInBounds_toArray, List.set_cons_zero, List.set_cons_succ, List.getElem_toArray, List.getElem_cons_zero, List.getElem_cons_succ]
    refine RG.RunsIf.weak (v := (.agg (K .u32 hs))) (by rfl) (by rfl) (fun Z hT => exec_load_row' 24 _ (by rfl) B (by rfl) 24 (K .u32 hs) (0, 0) _ (blk_keep NN.out hT) Tryd.underlying24 rfl IH.out) ?_
    simp only [Act.put, List.setIfInBounds_toArray, List.set_cons_zero, List.set_cons_succ, List.getElem_toArray, List.getElem_cons_zero, List.getElem_cons_succ]
    exact RG.RunsIf.nil
  refine RG.wpL_step (i := 1) (by kernel_rfl) (by rfl) (by rfl) (fun KX hK => ?_)
  have HK := TW.hide hK
  clear hK
  go_simp
  refine (P8.out Ya).mono ?_
  rintro e w7 ⟨vo, rfl, owo, hb7⟩
  have H7 : Hid (Below wb.heap.size wb w7) := below_row HTa.out hb7 HTa.out.size
  have hs7 : wb.heap.size ≤ Ya.heap.size := HTa.out.size
  refine HK.out _ _ H7.out (fun _ => trivial) ?_
  clear HK KX hb7 HTa
  obtain ⟨go, co, rfl, hgo, hgo2, _, owo2⟩ := own_self owo (by omega)
  have OO := TW.hide owo2
  clear owo owo2
  refine RG.wpL_step (i := 3) (by kernel_rfl) (by rfl) (by rfl) (fun KX hK => ?_)
  have HK := TW.hide hK
  clear hK
  go_simp
  refine (P8.out w7).mono ?_
  rintro e w8 ⟨vt, rfl, owt, hb8⟩
  have H8 : Hid (Below wb.heap.size wb w8) := below_row H7.out hb8 H7.out.size
  have OO8 := TW.hide (own_below5 OO.out hb8)
  have OT := TW.hide owt
  have hg8 : go < w8.heap.size := Nat.lt_of_lt_of_le hgo2 hb8.size
  refine HK.out _ _ H8.out (fun _ => trivial) ?_
  clear HK KX hb8 H7 OO owt
  refine RG.wpL_step (i := 4) (by kernel_rfl) (by rfl) (by rfl) (fun KX hK => ?_)
  have HK := TW.hide hK
  clear hK
  go_simp
  refine HK.out _ _ H8.out (fun _ => trivial) ?_
  clear HK KX
  refine RG.wpL_step (i := 5) (by kernel_rfl) (by rfl) (by rfl) (fun KX hK => ?_)
  have HK := TW.hide hK
  clear hK
  go_simp
  refine HK.out _ _ H8.out (fun _ => trivial) ?_
  clear HK KX
  refine RG.wpL_done (by kernel_rfl) ?_ _
  refine NoPanic.normal ?_
  refine HK0.out _ _ ?_
  clear HK0 KK
  refine wp_seq_k fun KK hK => ?_
  have HK := TW.hide hK
  clear hK
  go_wp2_with fail
  refine (spoil go 32 co (bytesL hs) w8 OO8.out hg8 (by omega)).mono ?_
  rintro e w9 ⟨⟨ve, rfl⟩, hgr⟩
  have H9 : Hid (Below wb.heap.size wb w9) := H8.out.grown hgr H8.out.size (fun k hk => by simp at hk; omega)
  have OT9 := TW.hide (own_grown5 OT.out hgr hgo2)
  clear hgr H8 OT OO8
  go_wp2
  refine HK.out _ _ ?_
  clear HK KK
  refine wp_seq_k fun KK hK => ?_
  have HK := TW.hide hK
  clear hK
  have n9 := TW.hide (blk_keep NN.out H9.out)
  go_wp2_with (refine wpList_load_row (by rfl) 24 _ (by rfl) (B) (by rfl) 24 (K .u32 hs) (0, 0) _ n9.out Tryd.underlying24 rfl IH.out ?_)
  refine (P8.out _).mono ?_
  rintro e w10 ⟨v3, rfl, ow3, hb10⟩
  have H10 : Hid (Below wb.heap.size wb w10) := below_row H9.out hb10 H9.out.size
  have OTa := TW.hide (own_below5 OT9.out hb10)
  have O3 := TW.hide ow3
  clear hb10 H9 n9 OT9 ow3
  go_wp2
  refine HK.out _ _ ?_
  clear HK KK
  refine wp_seq_k fun KK hK => ?_
  have HK := TW.hide hK
  clear hK
  have n9 := TW.hide (blk_keep NN.out H10.out)
  go_wp2_with (refine wpList_load_row (by rfl) 24 _ (by rfl) (B) (by rfl) 24 (K .u32 hs) (0, 0) _ n9.out Tryd.underlying24 rfl IH.out ?_)
  refine (P9.out _).mono ?_
  rintro e w11 ⟨v4, rfl, ow4, hb11⟩
  have H11 : Hid (Below wb.heap.size wb w11) := below_row H10.out hb11 H10.out.size
  have OTb := own_below5 OTa.out hb11
  have O3b := own_below5 O3.out hb11
  clear hb11 H10 n9 OTa O3
  rw [← HBL.out] at OTb O3b ow4
  obtain ⟨at_, ct, he1, rt, _⟩ := LW.row_of_own OTb
  obtain ⟨a3, c3, he2, r3, _⟩ := LW.row_of_own O3b
  obtain ⟨a4, c4, he3, r4, _⟩ := LW.row_of_own ow4
  rw [HBL.out] at he1 he2 he3
  subst he1 he2 he3
  have RT := TW.hide rt
  have R3 := TW.hide r3
  have R4 := TW.hide r4
  clear OTb O3b ow4 rt r3 r4
  go_wp2
  refine HK.out _ _ ?_
  clear HK KK
  go_wp2_with fail
  refine (Pa.out _ _ _ _ _ RT.out R4.out).mono ?_
  rintro e w12 ⟨rfl, qa, rfl⟩
  go_wp2_with fail
  refine (Pa.out _ _ _ _ _ (R3.out.drewN qa) (R4.out.drewN qa)).mono ?_
  rintro e w13 ⟨rfl, qb, rfl⟩
  have H13 : Hid (Below wb.heap.size wb ((w11.drewN qa).drewN qb)) := below_drewN (below_drewN H11.out qa) qb
  clear RT R3 R4 H11
  generalize (w11.drewN qa).drewN qb = w13 at *
  go_wp2_with fail
  refine (Pb.out _ _ _ (RX.out.below H13.out) (R0X.out.below H13.out)).mono ?_
  rintro e w14 ⟨rfl, hb14⟩
  have H14 : Hid (Below wb.heap.size wb w14) := below_row H13.out hb14 H13.out.size
  clear hb14 H13
  go_wp2_with fail
  refine (Pc.out _ _ _ (RY.out.below H14.out) (R0Y.out.below H14.out)).mono ?_
  rintro e w15 ⟨rfl, hb15⟩
  have H15 : Hid (Below B w w15) := below_row (NB0.out.trans (H14.out.mono (Nat.le_of_lt hBwb))) hb15 (by have := H14.out.size; omega)
  clear hb15 H14
  go_wp2
  go_ret
  exact ⟨rfl, H15.out⟩
end MX
end Go.Proofs.YtecepllidmkmhaaDoor
