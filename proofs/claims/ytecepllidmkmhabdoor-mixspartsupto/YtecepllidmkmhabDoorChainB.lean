/-
  What the calls Chain (the program's and the document's) give: a chain over whole blocks.
-/
import Derived.Test.YtecepllidmkmhabDoorWordsB
import Derived.Test.YtecepllidmkmhabDoorFs
namespace Go.Proofs.YtecepllidmkmhabDoor
open Go.RowKit
set_option linter.unusedVariables false
set_option linter.unusedSimpArgs false
namespace MX
open Turn
attribute [local go_sem ↓] Go.wp_at_zero Go.wp_at_succ
open Words
theorem results_row_tmps2 {P : Program} {fn : Func} {p q r : Tmp} {ty : TypeId} (h : fn.results = #[.cell p ty, .tmp q, .tmp r]) (tmps : Array Value) (w : World) (g : Nat) (t : TypeId) (cs : Array Value) (fr : Nat × Nat) (d : TypeDesc) (v v2 : Value)
    (hp : tmps.getD p undef = .pointer (some ⟨g, 0, none⟩)) (hq : tmps.getD q undef = v) (hr : tmps.getD r undef = v2) (hg : w.heap[g]? = some (.cells cs t fr))
    (hu : P.underlying ty = some d) (hd : (match d with | .struct _ | .array _ _ => true | _ => false) = true) (hi : (P.info? ty).map (·.size) = some cs.size) :
    (results fn tmps).run P w = .ok (.tuple #[.agg cs, v, v2]) w := by
  have hp' : tmps[p]?.getD undef = .pointer (some ⟨g, 0, none⟩) := by simpa using hp
  have hq' : tmps[q]?.getD undef = v := by simpa using hq
  have hr' : tmps[r]?.getD undef = v2 := by simpa using hr
  simp [results, h, hp', hq', hr', asAddr, run_loadVar_row w g t ty cs fr d hg hu hd hi]
/-- A part of a slice. -/
theorem exec_slice {P : Program} {o : Oper} {a : Act} {w : World} (t : TypeId) (x lo hi : Operand) (ho : o.op = .slice t x (some lo) (some hi) none) (b off len cap l n : Nat) (L H : Int) (e : TypeId) (hx : a.eval x = .slice (some ⟨b, off, none⟩) len cap)
    (hlo : a.eval lo = .int .i64 L) (hhi : a.eval hi = .int .i64 H) (hL : L = (l : Int)) (hH : H = ((l + n : Nat) : Int)) (hc : l + n ≤ cap) (hn : 0 < n) (hu : P.underlying t = some (.slice e)) (hs : (P.info? e).map (·.size) = some 1) :
    (execOp a.eval o).run P w = .ok (.value (.slice (some ⟨b, off + l, none⟩) n (cap - l))) w := by
  cases hq : P.info? e with
  | none => simp [hq] at hs
  | some ie =>
    have he : ie.size = 1 := by simpa [hq] using hs
    have hel : P.elem t = e := by simp [Program.elem, hu]
    have hu' : P.underlying t = some (.slice (P.elem t)) := by rw [hel]; exact hu
    have h1 : (Instr.sliceAt t (.slice (some ⟨b, off, none⟩) len cap) (some (.int .i64 L)) (some (.int .i64 H)) none).run P w = .ok (.slice (some ⟨b, off + l, none⟩) n (cap - l)) w := by
      rw [run_sliceAt_slice w t _ _ _ _ hu', run_slice_lh w t _ len cap hu' .i64 .i64 L H (by omega) (by omega) (by omega), hel]
      have e1 : L.toNat = l := by omega
      have e2 : H.toNat = l + n := by omega
      simp [sizeOf, typeInfo, hq, he, e1, e2, sliced, show ¬ cap = l by omega, Addr.add_mid]
    unfold execOp
    simp only [ho, hx, hlo, hhi, Option.map_some, Option.map_none, Sem.run_bind, h1, Result.andThen_ok, Sem.run_pure]
/-- The bytes of a block of the message. -/
def blk (zs : List Int) (k : Nat) : List Int := (zs.drop (64 * k)).take 64
theorem blk_length (zs : List Int) (m k : Nat) (h : zs.length = 64 * m) (hk : k < m) : (blk zs k).length = 64 := by
  unfold blk; rw [List.length_take, List.length_drop]; omega
theorem blk_Byt {zs : List Int} (h : Byt zs) (k : Nat) : Byt (blk zs k) := (h.drop _).take _
theorem row_sub {w : World} {b off : Nat} {zs : List Int} (h : ∀ i, i < zs.length → w.cell? ⟨b, off + i, none⟩ = some (.int .u8 (zs.getD i 0))) (m k : Nat) (hl : zs.length = 64 * m) (hk : k < m) : LW.Row w (some ⟨b, off + 64 * k, none⟩) (blk zs k) := by
  refine .inr ⟨b, off + 64 * k, rfl, fun i hi => ?_⟩
  rw [blk_length zs m k hl hk] at hi
  have := h (64 * k + i) (by omega)
  rw [Nat.add_assoc, this]
  simp [blk, List.getD_eq_getElem?_getD, List.getElem?_take, hi, List.getElem?_drop]
/-- The count behind so many blocks. -/
def cnt (n : Int) (k : Nat) : Int := (n + 64 * (k : Int)) % 18446744073709551616
theorem cnt_zero (n : Int) (h0 : 0 ≤ n) (h1 : n < 18446744073709551616) : cnt n 0 = n := by unfold cnt; omega
theorem cnt_succ (n : Int) (k : Nat) : cnt n (k + 1) = (cnt n k + 64) % 18446744073709551616 := by unfold cnt; omega
theorem cnt_add (n : Int) (a b : Nat) : cnt (cnt n a) b = cnt n (a + b) := by unfold cnt; omega
theorem cnt_bd (n : Int) (k : Nat) : 0 ≤ cnt n k ∧ cnt n k < 18446744073709551616 := by unfold cnt; omega
/-- The chain behind so many blocks. -/
def chH (hs zs : List Int) (n : Int) : Nat → List Int
  | 0 => hs
  | k + 1 => fL (chH hs zs n k) (wordsL (blk zs k) 16) (cnt n (k + 1)) false false
theorem chH_succ (hs zs : List Int) (n : Int) (k : Nat) : chH hs zs n (k + 1) = fL (chH hs zs n k) (wordsL (blk zs k) 16) (cnt n (k + 1)) false false := rfl
theorem chH_ok {hs zs : List Int} (n : Int) (hl : hs.length = 8) (hw : Ws hs) (hz : Byt zs) (k : Nat) : (chH hs zs n k).length = 8 ∧ Ws (chH hs zs n k) := by
  induction k with
  | zero => exact ⟨hl, hw⟩
  | succ k ih =>
    rw [chH_succ]
    exact ⟨fL_length _ _ _ _ _, fL_Ws _ false false ih.2 (cnt_bd n (k + 1)).1 (cnt_bd n (k + 1)).2⟩
theorem size5 : (Tryd.prog.info? 5).map (·.size) = some 1 := by kernel_rfl
theorem wpList_buildTo_ {P : Program} {ops : Array Oper} {rest : List Oper} {o : Oper} {a : Act} {w : World} {Q : Exit → Act → World → Prop} (hg : o.guard = none) (t : TypeId) (parts : Array (Nat × Operand)) (ho : o.op = .build t parts) (v : Value)
    (hrun : (execOp a.eval o).run P w = .ok (.value v) w) (h : wpList P ops Q rest (a.put o.dst v) w) : wpList P ops Q (o :: rest) a w := Great.wpList_runTo hg _ rfl v w hrun h
set_option maxRecDepth 100000 in
set_option maxHeartbeats 1000000 in
theorem chainOk (hs : List Int) (a : Option Addr) (cap m : Nat) (zs : List Int) (n : Int) (w : World) (ti : Tab w 0 .u32 ivL) (to : Tab w 1 .u8 ordL) (hl : hs.length = 8) (hw : Ws hs) (hz : Byt zs) (hr : LW.Row w a zs) (hm : zs.length = 64 * m) (hc : zs.length ≤ cap) (hx : zs.length ≤ 140737488351232) (wn : 0 ≤ n) (wn' : n < 18446744073709551616) :
    Calls Tryd.prog 9 #[.agg (K .u32 hs), .slice a (64 * m) cap, .int .u64 n] w fun e w' => e = .returned (.tuple #[.agg (K .u32 (chH hs zs n m)), .int .u64 (cnt n m), .int .i64 0]) ∧ Below w.heap.size w w' := by
  have hwo := fun k (hk : k < m) (Y : World) (x : Option Addr) (cx : Nat) (h : LW.Row Y x (blk zs k)) => wordsOk x cx (blk zs k) Y (blk_Byt hz k) h (blk_length zs m k hm hk)
  have hfo := fun k Y (ht : Below w.heap.size w Y) => fOk (chH hs zs n k) (wordsL (blk zs k) 16) (cnt n (k + 1)) false false Y (ti.below ht) (to.below ht) (chH_ok n hl hw hz k).1 (wordsL_length _ _) (chH_ok n hl hw hz k).2 (wordsL_Ws _ (blk_Byt hz k) 16) (cnt_bd n (k + 1)).1 (cnt_bd n (k + 1)).2
  have hch := fun k => chH_ok n hl hw hz k
  have hcz := cnt_zero n wn wn'
  have hb := (((Below.refl w.heap.size w).alloc (Nat.le_refl _) (.cells (K .u32 hs) 23)).alloc (by simp; try omega) (.cells (K .u32 (List.replicate 8 0)) 23))
  have n0 := (blk_alloc (o' := .cells (K .u32 (List.replicate 8 0)) 23) (heap_new w (.cells (K .u32 hs) 23)))
  have n1 := (heap_new (w.alloc (.cells (K .u32 hs) 23)) (.cells (K .u32 (List.replicate 8 0)) 23))
  rw [show (w.alloc (.cells (K .u32 hs) 23)).heap.size = w.heap.size + 1 by simp] at n1
  have WO := TW.hide hwo
  have FO := TW.hide hfo
  have CH := TW.hide hch
  have HR := TW.hide hr
  have HM := TW.hide hm
  clear hwo hfo hch hr hm
  clear hz hl hw ti to
  have h64 : 64 * m ≤ 140737488351232 := by have := HM.out; omega
  have hcap : 64 * m ≤ cap := by have := HM.out; omega
  clear hc hx
  go_enter Tryd.func9, Tryd.ntmps9
  refine wp_seq_k fun K hK => ?_
  have HK := TW.hide hK
  clear hK
  go_wp2
  refine HK.out _ _ ?_
  clear HK K
  change Code.wp _ _ _ _ ((w.alloc (.cells (K .u32 hs) 23)).alloc (.cells (K .u32 (List.replicate 8 0)) 23))
  generalize hWW : (w.alloc (.cells (K .u32 hs) 23)).alloc (.cells (K .u32 (List.replicate 8 0)) 23) = W at hb n0 n1 ⊢
  have hW : W.heap.size = w.heap.size + 1 + 1 := by rw [← hWW]; simp
  clear hWW
  generalize hB : w.heap.size = B at *
  have N0 := TW.hide n0
  have N1 := TW.hide n1
  have NB := TW.hide hb
  clear n0 n1 hb
  clear hW
  have hne : ((64 * (m : Int)).tmod 64 != 0) = false := by rw [Int.tmod_eq_emod_of_nonneg (by omega)]; simp
  have hdv : (64 * (m : Int)).tdiv 64 = (m : Int) := by rw [Int.tdiv_eq_ediv_of_nonneg (by omega)]; omega
  go_wp2
  go_loopw [2, 20] (fun c i wr => ∃ k : Nat, k ≤ m ∧ i = .int .i64 (k) ∧ c = .int .u64 (cnt n k) ∧ wr.heap[B]? = some (.cells (K .u32 (chH hs zs n k)) 23 (0, 0)) ∧ wr.heap[B + 1]? = some (.cells (K .u32 (List.replicate 8 0)) 23 (0, 0)) ∧ Below B w wr) (fun _ i _ => m - (intOf i).toNat)
  case atStart => exact ⟨0, Nat.zero_le _, rfl, by rw [hcz], N0.out, N1.out, NB.out⟩
  case round =>
    obtain ⟨k, hk, rfl, rfl, n0, n1, hb⟩ := hrel
    clear N0 N1 NB hcz
    by_cases hlt : k < m
    · obtain ⟨b, off, rfl, hcell⟩ : ∃ b off, a = some ⟨b, off, none⟩ ∧ ∀ i, i < zs.length → w.cell? ⟨b, off + i, none⟩ = some (.int .u8 (zs.getD i 0)) := by
        rcases HR.out with h | h
        · exfalso; have := HM.out; rw [h] at this; simp at this; omega
        · exact h
      have hrow : LW.Row wr (some ⟨b, off + 64 * k, none⟩) (blk zs k) := (row_sub hcell m k HM.out hlt).below (hB ▸ hb)
      have hwc := WO.out k hlt wr _ (cap - 64 * k) hrow
      have hch := CH.out k
      have hfc := fun Y h => FO.out k Y h
      have hcs := cnt_succ n k
      have hcb := cnt_bd n k
      have hst := chH_succ hs zs n k
      rw [hcs] at hst hfc
      have IU := TW.hide (info8 (chH hs zs n k) hch.1)
      have hfl : (fL (chH hs zs n k) (wordsL (blk zs k) 16) ((cnt n k + 64) % 18446744073709551616) false false).length = 8 := fL_length _ _ _ _ _
      have IW := TW.hide (info16 (wordsL (blk zs k) 16) (wordsL_length _ _))
      have OW := TW.hide (size16 (List.replicate 16 0) (wordsL (blk zs k) 16) rfl (wordsL_length _ _))
      generalize wordsL (blk zs k) 16 = ws at *
      generalize chH hs zs n k = us at *
      generalize cnt n k = c at *
      generalize fL us ws ((c + 64) % 18446744073709551616) false false = us2 at *
      have IU2 := TW.hide (info8 us2 hfl)
      have OU := TW.hide (size8 us us2 hch.1 hfl)
      have HWC := TW.hide hwc
      have HFC := TW.hide hfc
      have HST := TW.hide hst
      have HCS := TW.hide hcs
      have G0 := TW.hide n0
      have G1 := TW.hide n1
      have GB := TW.hide hb
      clear hrow hwc hch hfc hcs hst hfl n0 n1 hb hcell
      obtain ⟨hc0, hc1⟩ := hcb
      have k1 : (k : Int) < (m : Int) := by omega
      have k2 : 64 * (k : Int) < 64 * (m : Int) := by omega
      have hk64 : 64 * k + 64 ≤ cap := by omega
      go_wp2_with (refine wpList_val (.slice (some ⟨b, off + 64 * k, none⟩) 64 (cap - 64 * k)) (by rfl) (exec_slice 24 _ _ _ (by rfl) b off (64 * m) cap (64 * k) 64 _ _ 5 (by rfl) (by rfl) (by rfl) (by omega) (by omega) hk64 (by decide) Tryd.underlying24 size5) ?_; simp only [Act.put, List.setIfInBounds_toArray, List.set_cons_zero, List.set_cons_succ, List.getElem_toArray, List.getElem_cons_zero, List.getElem_cons_succ])
      refine HWC.out.mono ?_
      rintro e w1 ⟨rfl, hb1⟩
      have M0 := TW.hide (blk_keep G0.out hb1)
      have M1 := TW.hide (blk_keep G1.out hb1)
      have MB : Hid (Below B w w1) := below_row GB.out hb1 (by have := blk_lt G0.out; omega)
      have hl1 : B + 1 < w1.heap.size := blk_lt M1.out
      have X0 : Hid (((w1.alloc (.cells #[.int .u32 0, .int .u32 0, .int .u32 0, .int .u32 0, .int .u32 0, .int .u32 0, .int .u32 0, .int .u32 0, .int .u32 0, .int .u32 0, .int .u32 0, .int .u32 0, .int .u32 0, .int .u32 0, .int .u32 0, .int .u32 0] 34)).setRow w1.heap.size (K .u32 ws)).heap[B]? = some (.cells (K .u32 us) 23 (0, 0))) := by
        show _ = _
        rw [setRow_other _ _ _ _ (by omega)]; exact blk_alloc M0.out
      have X1 : Hid (((w1.alloc (.cells #[.int .u32 0, .int .u32 0, .int .u32 0, .int .u32 0, .int .u32 0, .int .u32 0, .int .u32 0, .int .u32 0, .int .u32 0, .int .u32 0, .int .u32 0, .int .u32 0, .int .u32 0, .int .u32 0, .int .u32 0, .int .u32 0] 34)).setRow w1.heap.size (K .u32 ws)).heap[B + 1]? = some (.cells (K .u32 (List.replicate 8 0)) 23 (0, 0))) := by
        show _ = _
        rw [setRow_other _ _ _ _ (by omega)]; exact blk_alloc M1.out
      have XG := TW.hide (setRow_heap _ _ _ (K .u32 ws) _ _ (heap_new w1 (.cells #[.int .u32 0, .int .u32 0, .int .u32 0, .int .u32 0, .int .u32 0, .int .u32 0, .int .u32 0, .int .u32 0, .int .u32 0, .int .u32 0, .int .u32 0, .int .u32 0, .int .u32 0, .int .u32 0, .int .u32 0, .int .u32 0] 34)))
      have XB : Hid (Below B w ((w1.alloc (.cells #[.int .u32 0, .int .u32 0, .int .u32 0, .int .u32 0, .int .u32 0, .int .u32 0, .int .u32 0, .int .u32 0, .int .u32 0, .int .u32 0, .int .u32 0, .int .u32 0, .int .u32 0, .int .u32 0, .int .u32 0, .int .u32 0] 34)).setRow w1.heap.size (K .u32 ws))) := below_setRow (MB.out.alloc (by have := MB.out.size; omega) _) (by omega)
      clear hb1 G0 G1 GB HWC M0 M1 MB
      go_wp2_with (first | (refine wpList_store_row (by rfl) 34 _ _ (by rfl) w1.heap.size (K .u32 ws) (by rfl) (by rfl) 34 _ (heap_new w1 _) IW.out OW.out (K_one _ _) ?_; generalize (w1.alloc (.cells #[.int .u32 0, .int .u32 0, .int .u32 0, .int .u32 0, .int .u32 0, .int .u32 0, .int .u32 0, .int .u32 0, .int .u32 0, .int .u32 0, .int .u32 0, .int .u32 0, .int .u32 0, .int .u32 0, .int .u32 0, .int .u32 0] 34)).setRow w1.heap.size (K .u32 ws) = X at *; generalize w1.heap.size = g at *) | (refine wpList_load_row (by rfl) 23 _ (by rfl) (B) (by rfl) 23 (K .u32 us) (0, 0) _ X0.out Tryd.underlying23 rfl IU.out ?_) | (refine wpList_load_row (by rfl) 34 _ (by rfl) _ (by rfl) 34 (K .u32 ws) (0, 0) _ XG.out Tryd.underlying34 rfl IW.out ?_))
      refine (HFC.out _ (hB ▸ XB.out)).mono ?_
      rintro e w2 ⟨rfl, hb2⟩
      have M0 := TW.hide (blk_keep X0.out hb2)
      have M1 := TW.hide (blk_keep X1.out hb2)
      have MB : Hid (Below B w w2) := below_row XB.out hb2 (by have := blk_lt X0.out; omega)
      have Y0 : Hid ((w2.setRow B (K .u32 us2)).heap[B]? = some (.cells (K .u32 us2) 23 (0, 0))) := setRow_heap _ _ _ _ _ _ M0.out
      have Y1 : Hid ((w2.setRow B (K .u32 us2)).heap[B + 1]? = some (.cells (K .u32 (List.replicate 8 0)) 23 (0, 0))) := by
        show _ = _
        rw [setRow_other _ _ _ _ (by omega)]; exact M1.out
      have YB : Hid (Below B w (w2.setRow B (K .u32 us2))) := below_setRow MB.out (Nat.le_refl _)
      clear hb2 X0 X1 XG XB M1 MB
      go_wp2_with (refine wpList_store_row (by rfl) 23 _ _ (by rfl) B (K .u32 us2) (by rfl) (by rfl) 23 _ M0.out IU2.out OU.out (K_one _ _) ?_; generalize w2.setRow B (K .u32 us2) = Y at *)
      go_roundw
      case rel =>
        refine ⟨k + 1, by omega, by go_num, by rw [HCS.out]; first | rfl | rw [IntKind.wrap_u64], ?_, Y1.out, YB.out⟩
        rw [HST.out]; exact Y0.out
      case measure => simp [intOf]; omega
    · obtain rfl : k = m := by omega
      have hch := CH.out k
      have IU := TW.hide (info8 (chH hs zs n k) hch.1)
      have OU := TW.hide (size8 (List.replicate 8 0) (chH hs zs n k) rfl hch.1)
      generalize hus : chH hs zs n k = us at *
      generalize hcc : cnt n k = c at *
      have HUS := TW.hide hus
      have HCC := TW.hide hcc
      have G0 := TW.hide n0
      have G1 := TW.hide n1
      have GB := TW.hide hb
      clear n0 n1 hb hch hus hcc
      have Y1 := TW.hide (setRow_heap _ _ _ (K .u32 us) _ _ G1.out)
      go_wp2_with (first | (refine wpList_load_row (by rfl) 23 _ (by rfl) (B) (by rfl) 23 (K .u32 us) (0, 0) _ G0.out Tryd.underlying23 rfl IU.out ?_) | (refine wpList_store_row (by rfl) 23 _ _ (by rfl) (B + 1) (K .u32 us) (by rfl) (by rfl) 23 _ G1.out IU.out OU.out (K_one _ _) ?_))
      refine bodyPost_ret (v := .tuple #[.agg (K .u32 us), .int .u64 c, .int .i64 0]) (results_row_tmps2 (P := Tryd.prog) Tryd.results9 _ _ (B + 1) 23 _ (0, 0) _ _ _ (by rfl) (by rfl) (by rfl) Y1.out Tryd.underlying23 rfl IU.out) rfl ?_
      exact ⟨by rw [HUS.out, HCC.out], below_setRow GB.out (by omega)⟩
set_option maxRecDepth 100000 in
theorem chainNo (hs : List Int) (a : Option Addr) (cap l : Nat) (n : Int) (w : World) (hm : l % 64 ≠ 0) (hx : l ≤ 140737488351232) :
    Calls Tryd.prog 9 #[.agg (K .u32 hs), .slice a l cap, .int .u64 n] w fun e w' => e = .returned (.tuple #[.agg (K .u32 (List.replicate 8 0)), .int .u64 0, .int .i64 1]) ∧ Below w.heap.size w w' := by
  have iz := info8 (List.replicate 8 0) rfl
  have hb := (((Below.refl w.heap.size w).alloc (Nat.le_refl _) (.cells (K .u32 hs) 23)).alloc (by simp; try omega) (.cells (K .u32 (List.replicate 8 0)) 23))
  have n0 := (blk_alloc (o' := .cells (K .u32 (List.replicate 8 0)) 23) (heap_new w (.cells (K .u32 hs) 23)))
  have n1 := (heap_new (w.alloc (.cells (K .u32 hs) 23)) (.cells (K .u32 (List.replicate 8 0)) 23))
  rw [show (w.alloc (.cells (K .u32 hs) 23)).heap.size = w.heap.size + 1 by simp] at n1
  go_enter Tryd.func9, Tryd.ntmps9
  refine wp_seq_k fun K hK => ?_
  have HK := TW.hide hK
  clear hK
  go_wp2
  refine HK.out _ _ ?_
  clear HK K
  change Code.wp _ _ _ _ ((w.alloc (.cells (K .u32 hs) 23)).alloc (.cells (K .u32 (List.replicate 8 0)) 23))
  generalize hWW : (w.alloc (.cells (K .u32 hs) 23)).alloc (.cells (K .u32 (List.replicate 8 0)) 23) = W at hb n0 n1 ⊢
  have hW : W.heap.size = w.heap.size + 1 + 1 := by rw [← hWW]; simp
  clear hWW
  generalize hB : w.heap.size = B at *
  have N0 := TW.hide n0
  have N1 := TW.hide n1
  have NB := TW.hide hb
  have IZ := TW.hide iz
  clear n0 n1 hb iz
  clear hW
  have hne : (((l : Int)).tmod 64 != 0) = true := by rw [Int.tmod_eq_emod_of_nonneg (by omega)]; simp; omega
  have Y1 := TW.hide (setRow_heap _ _ _ (K .u32 (List.replicate 8 0)) _ _ N1.out)
  go_wp2_with (first | (refine wpList_buildTo_ (by rfl) 23 _ (by rfl) (.agg (K .u32 (List.replicate 8 0))) (by kernel_rfl) ?_; simp only [Act.put, List.setIfInBounds_toArray, List.set_cons_zero, List.set_cons_succ, List.getElem_toArray, List.getElem_cons_zero, List.getElem_cons_succ]) | (refine wpList_store_row (by rfl) 23 _ _ (by rfl) (B + 1) (K .u32 (List.replicate 8 0)) (by rfl) (by rfl) 23 _ N1.out IZ.out rfl (K_one _ _) ?_))
  refine bodyPost_ret (v := .tuple #[.agg (K .u32 (List.replicate 8 0)), .int .u64 0, .int .i64 1]) (results_row_tmps2 (P := Tryd.prog) Tryd.results9 _ _ (B + 1) 23 _ (0, 0) _ _ _ (by rfl) (by rfl) (by rfl) Y1.out Tryd.underlying23 rfl IZ.out) rfl ?_
  exact ⟨rfl, below_setRow NB.out (by omega)⟩
set_option maxRecDepth 100000 in
set_option maxHeartbeats 1000000 in
theorem rchainOk (hs : List Int) (a : Option Addr) (cap m : Nat) (zs : List Int) (n : Int) (w : World) (hl : hs.length = 8) (hw : Ws hs) (hz : Byt zs) (hr : LW.Row w a zs) (hm : zs.length = 64 * m) (hc : zs.length ≤ cap) (hx : zs.length ≤ 140737488351232) (wn : 0 ≤ n) (wn' : n < 18446744073709551616) :
    Calls Tryd.prog 10 #[.agg (K .u32 hs), .slice a (64 * m) cap, .int .u64 n] w fun e w' => e = .returned (.tuple #[.agg (K .u32 (chH hs zs n m)), .int .u64 (cnt n m), .int .i64 0]) ∧ Below w.heap.size w w' := by
  have hwo := fun k (hk : k < m) (Y : World) (x : Option Addr) (cx : Nat) (h : LW.Row Y x (blk zs k)) => rwordsOk x cx (blk zs k) Y (blk_Byt hz k) h (blk_length zs m k hm hk)
  have hfo := fun k Y => rfOk (chH hs zs n k) (wordsL (blk zs k) 16) (cnt n (k + 1)) false false Y (chH_ok n hl hw hz k).1 (wordsL_length _ _) (chH_ok n hl hw hz k).2 (wordsL_Ws _ (blk_Byt hz k) 16) (cnt_bd n (k + 1)).1 (cnt_bd n (k + 1)).2
  have hch := fun k => chH_ok n hl hw hz k
  have hcz := cnt_zero n wn wn'
  have hb := (((Below.refl w.heap.size w).alloc (Nat.le_refl _) (.cells (K .u32 hs) 23)).alloc (by simp; try omega) (.cells (K .u32 (List.replicate 8 0)) 23))
  have n0 := (blk_alloc (o' := .cells (K .u32 (List.replicate 8 0)) 23) (heap_new w (.cells (K .u32 hs) 23)))
  have n1 := (heap_new (w.alloc (.cells (K .u32 hs) 23)) (.cells (K .u32 (List.replicate 8 0)) 23))
  rw [show (w.alloc (.cells (K .u32 hs) 23)).heap.size = w.heap.size + 1 by simp] at n1
  have WO := TW.hide hwo
  have FO := TW.hide hfo
  have CH := TW.hide hch
  have HR := TW.hide hr
  have HM := TW.hide hm
  clear hwo hfo hch hr hm
  clear hz hl hw
  have h64 : 64 * m ≤ 140737488351232 := by have := HM.out; omega
  have hcap : 64 * m ≤ cap := by have := HM.out; omega
  clear hc hx
  go_enter Tryd.func10, Tryd.ntmps10
  refine wp_seq_k fun K hK => ?_
  have HK := TW.hide hK
  clear hK
  go_wp2
  refine HK.out _ _ ?_
  clear HK K
  change Code.wp _ _ _ _ ((w.alloc (.cells (K .u32 hs) 23)).alloc (.cells (K .u32 (List.replicate 8 0)) 23))
  generalize hWW : (w.alloc (.cells (K .u32 hs) 23)).alloc (.cells (K .u32 (List.replicate 8 0)) 23) = W at hb n0 n1 ⊢
  have hW : W.heap.size = w.heap.size + 1 + 1 := by rw [← hWW]; simp
  clear hWW
  generalize hB : w.heap.size = B at *
  have N0 := TW.hide n0
  have N1 := TW.hide n1
  have NB := TW.hide hb
  clear n0 n1 hb
  clear hW
  have hne : ((64 * (m : Int)).tmod 64 != 0) = false := by rw [Int.tmod_eq_emod_of_nonneg (by omega)]; simp
  have hdv : (64 * (m : Int)).tdiv 64 = (m : Int) := by rw [Int.tdiv_eq_ediv_of_nonneg (by omega)]; omega
  go_wp2
  go_loopw [2, 9] (fun c i wr => ∃ k : Nat, k ≤ m ∧ i = .int .i64 (64 * (k : Int)) ∧ c = .int .u64 (cnt n k) ∧ wr.heap[B]? = some (.cells (K .u32 (chH hs zs n k)) 23 (0, 0)) ∧ wr.heap[B + 1]? = some (.cells (K .u32 (List.replicate 8 0)) 23 (0, 0)) ∧ Below B w wr) (fun _ i _ => 64 * m - (intOf i).toNat)
  case atStart => exact ⟨0, Nat.zero_le _, rfl, by rw [hcz], N0.out, N1.out, NB.out⟩
  case round =>
    obtain ⟨k, hk, rfl, rfl, n0, n1, hb⟩ := hrel
    clear N0 N1 NB hcz
    by_cases hlt : k < m
    · obtain ⟨b, off, rfl, hcell⟩ : ∃ b off, a = some ⟨b, off, none⟩ ∧ ∀ i, i < zs.length → w.cell? ⟨b, off + i, none⟩ = some (.int .u8 (zs.getD i 0)) := by
        rcases HR.out with h | h
        · exfalso; have := HM.out; rw [h] at this; simp at this; omega
        · exact h
      have hrow : LW.Row wr (some ⟨b, off + 64 * k, none⟩) (blk zs k) := (row_sub hcell m k HM.out hlt).below (hB ▸ hb)
      have hwc := WO.out k hlt wr _ (cap - 64 * k) hrow
      have hch := CH.out k
      have hfc := fun Y => FO.out k Y
      have hcs := cnt_succ n k
      have hcb := cnt_bd n k
      have hst := chH_succ hs zs n k
      rw [hcs] at hst hfc
      have IU := TW.hide (info8 (chH hs zs n k) hch.1)
      have hfl : (fL (chH hs zs n k) (wordsL (blk zs k) 16) ((cnt n k + 64) % 18446744073709551616) false false).length = 8 := fL_length _ _ _ _ _
      have IW := TW.hide (info16 (wordsL (blk zs k) 16) (wordsL_length _ _))
      have OW := TW.hide (size16 (List.replicate 16 0) (wordsL (blk zs k) 16) rfl (wordsL_length _ _))
      generalize wordsL (blk zs k) 16 = ws at *
      generalize chH hs zs n k = us at *
      generalize cnt n k = c at *
      generalize fL us ws ((c + 64) % 18446744073709551616) false false = us2 at *
      have IU2 := TW.hide (info8 us2 hfl)
      have OU := TW.hide (size8 us us2 hch.1 hfl)
      have HWC := TW.hide hwc
      have HFC := TW.hide hfc
      have HST := TW.hide hst
      have HCS := TW.hide hcs
      have G0 := TW.hide n0
      have G1 := TW.hide n1
      have GB := TW.hide hb
      clear hrow hwc hch hfc hcs hst hfl n0 n1 hb hcell
      obtain ⟨hc0, hc1⟩ := hcb
      have k1 : (k : Int) < (m : Int) := by omega
      have k2 : 64 * (k : Int) < 64 * (m : Int) := by omega
      have hk64 : 64 * k + 64 ≤ cap := by omega
      go_wp2_with (refine wpList_val (.slice (some ⟨b, off + 64 * k, none⟩) 64 (cap - 64 * k)) (by rfl) (exec_slice 24 _ _ _ (by rfl) b off (64 * m) cap (64 * k) 64 _ _ 5 (by rfl) (by rfl) (by rfl) (by omega) (by omega) hk64 (by decide) Tryd.underlying24 size5) ?_; simp only [Act.put, List.setIfInBounds_toArray, List.set_cons_zero, List.set_cons_succ, List.getElem_toArray, List.getElem_cons_zero, List.getElem_cons_succ])
      refine HWC.out.mono ?_
      rintro e w1 ⟨rfl, hb1⟩
      have M0 := TW.hide (blk_keep G0.out hb1)
      have M1 := TW.hide (blk_keep G1.out hb1)
      have MB : Hid (Below B w w1) := below_row GB.out hb1 (by have := blk_lt G0.out; omega)
      have hl1 : B + 1 < w1.heap.size := blk_lt M1.out
      have X0 : Hid (((w1.alloc (.cells #[.int .u32 0, .int .u32 0, .int .u32 0, .int .u32 0, .int .u32 0, .int .u32 0, .int .u32 0, .int .u32 0, .int .u32 0, .int .u32 0, .int .u32 0, .int .u32 0, .int .u32 0, .int .u32 0, .int .u32 0, .int .u32 0] 34)).setRow w1.heap.size (K .u32 ws)).heap[B]? = some (.cells (K .u32 us) 23 (0, 0))) := by
        show _ = _
        rw [setRow_other _ _ _ _ (by omega)]; exact blk_alloc M0.out
      have X1 : Hid (((w1.alloc (.cells #[.int .u32 0, .int .u32 0, .int .u32 0, .int .u32 0, .int .u32 0, .int .u32 0, .int .u32 0, .int .u32 0, .int .u32 0, .int .u32 0, .int .u32 0, .int .u32 0, .int .u32 0, .int .u32 0, .int .u32 0, .int .u32 0] 34)).setRow w1.heap.size (K .u32 ws)).heap[B + 1]? = some (.cells (K .u32 (List.replicate 8 0)) 23 (0, 0))) := by
        show _ = _
        rw [setRow_other _ _ _ _ (by omega)]; exact blk_alloc M1.out
      have XG := TW.hide (setRow_heap _ _ _ (K .u32 ws) _ _ (heap_new w1 (.cells #[.int .u32 0, .int .u32 0, .int .u32 0, .int .u32 0, .int .u32 0, .int .u32 0, .int .u32 0, .int .u32 0, .int .u32 0, .int .u32 0, .int .u32 0, .int .u32 0, .int .u32 0, .int .u32 0, .int .u32 0, .int .u32 0] 34)))
      have XB : Hid (Below B w ((w1.alloc (.cells #[.int .u32 0, .int .u32 0, .int .u32 0, .int .u32 0, .int .u32 0, .int .u32 0, .int .u32 0, .int .u32 0, .int .u32 0, .int .u32 0, .int .u32 0, .int .u32 0, .int .u32 0, .int .u32 0, .int .u32 0, .int .u32 0] 34)).setRow w1.heap.size (K .u32 ws))) := below_setRow (MB.out.alloc (by have := MB.out.size; omega) _) (by omega)
      clear hb1 G0 G1 GB HWC M0 M1 MB
      go_wp2_with (first | (refine wpList_store_row (by rfl) 34 _ _ (by rfl) w1.heap.size (K .u32 ws) (by rfl) (by rfl) 34 _ (heap_new w1 _) IW.out OW.out (K_one _ _) ?_; generalize (w1.alloc (.cells #[.int .u32 0, .int .u32 0, .int .u32 0, .int .u32 0, .int .u32 0, .int .u32 0, .int .u32 0, .int .u32 0, .int .u32 0, .int .u32 0, .int .u32 0, .int .u32 0, .int .u32 0, .int .u32 0, .int .u32 0, .int .u32 0] 34)).setRow w1.heap.size (K .u32 ws) = X at *; generalize w1.heap.size = g at *) | (refine wpList_load_row (by rfl) 23 _ (by rfl) (B) (by rfl) 23 (K .u32 us) (0, 0) _ X0.out Tryd.underlying23 rfl IU.out ?_) | (refine wpList_load_row (by rfl) 34 _ (by rfl) _ (by rfl) 34 (K .u32 ws) (0, 0) _ XG.out Tryd.underlying34 rfl IW.out ?_))
      refine (HFC.out _).mono ?_
      rintro e w2 ⟨rfl, hb2⟩
      have M0 := TW.hide (blk_keep X0.out hb2)
      have M1 := TW.hide (blk_keep X1.out hb2)
      have MB : Hid (Below B w w2) := below_row XB.out hb2 (by have := blk_lt X0.out; omega)
      have Y0 : Hid ((w2.setRow B (K .u32 us2)).heap[B]? = some (.cells (K .u32 us2) 23 (0, 0))) := setRow_heap _ _ _ _ _ _ M0.out
      have Y1 : Hid ((w2.setRow B (K .u32 us2)).heap[B + 1]? = some (.cells (K .u32 (List.replicate 8 0)) 23 (0, 0))) := by
        show _ = _
        rw [setRow_other _ _ _ _ (by omega)]; exact M1.out
      have YB : Hid (Below B w (w2.setRow B (K .u32 us2))) := below_setRow MB.out (Nat.le_refl _)
      clear hb2 X0 X1 XG XB M1 MB
      go_wp2_with (refine wpList_store_row (by rfl) 23 _ _ (by rfl) B (K .u32 us2) (by rfl) (by rfl) 23 _ M0.out IU2.out OU.out (K_one _ _) ?_; generalize w2.setRow B (K .u32 us2) = Y at *)
      go_roundw
      case rel =>
        refine ⟨k + 1, by omega, by go_num, by rw [HCS.out]; first | rfl | rw [IntKind.wrap_u64], ?_, Y1.out, YB.out⟩
        rw [HST.out]; exact Y0.out
      case measure => simp [intOf]; omega
    · obtain rfl : k = m := by omega
      have hch := CH.out k
      have IU := TW.hide (info8 (chH hs zs n k) hch.1)
      have OU := TW.hide (size8 (List.replicate 8 0) (chH hs zs n k) rfl hch.1)
      generalize hus : chH hs zs n k = us at *
      generalize hcc : cnt n k = c at *
      have HUS := TW.hide hus
      have HCC := TW.hide hcc
      have G0 := TW.hide n0
      have G1 := TW.hide n1
      have GB := TW.hide hb
      clear n0 n1 hb hch hus hcc
      have Y1 := TW.hide (setRow_heap _ _ _ (K .u32 us) _ _ G1.out)
      go_wp2_with (first | (refine wpList_load_row (by rfl) 23 _ (by rfl) (B) (by rfl) 23 (K .u32 us) (0, 0) _ G0.out Tryd.underlying23 rfl IU.out ?_) | (refine wpList_store_row (by rfl) 23 _ _ (by rfl) (B + 1) (K .u32 us) (by rfl) (by rfl) 23 _ G1.out IU.out OU.out (K_one _ _) ?_))
      refine bodyPost_ret (v := .tuple #[.agg (K .u32 us), .int .u64 c, .int .i64 0]) (results_row_tmps2 (P := Tryd.prog) Tryd.results10 _ _ (B + 1) 23 _ (0, 0) _ _ _ (by rfl) (by rfl) (by rfl) Y1.out Tryd.underlying23 rfl IU.out) rfl ?_
      exact ⟨by rw [HUS.out, HCC.out], below_setRow GB.out (by omega)⟩
set_option maxRecDepth 100000 in
theorem rchainNo (hs : List Int) (a : Option Addr) (cap l : Nat) (n : Int) (w : World) (hm : l % 64 ≠ 0) (hx : l ≤ 140737488351232) :
    Calls Tryd.prog 10 #[.agg (K .u32 hs), .slice a l cap, .int .u64 n] w fun e w' => e = .returned (.tuple #[.agg (K .u32 (List.replicate 8 0)), .int .u64 0, .int .i64 1]) ∧ Below w.heap.size w w' := by
  have iz := info8 (List.replicate 8 0) rfl
  have hb := (((Below.refl w.heap.size w).alloc (Nat.le_refl _) (.cells (K .u32 hs) 23)).alloc (by simp; try omega) (.cells (K .u32 (List.replicate 8 0)) 23))
  have n0 := (blk_alloc (o' := .cells (K .u32 (List.replicate 8 0)) 23) (heap_new w (.cells (K .u32 hs) 23)))
  have n1 := (heap_new (w.alloc (.cells (K .u32 hs) 23)) (.cells (K .u32 (List.replicate 8 0)) 23))
  rw [show (w.alloc (.cells (K .u32 hs) 23)).heap.size = w.heap.size + 1 by simp] at n1
  go_enter Tryd.func10, Tryd.ntmps10
  refine wp_seq_k fun K hK => ?_
  have HK := TW.hide hK
  clear hK
  go_wp2
  refine HK.out _ _ ?_
  clear HK K
  change Code.wp _ _ _ _ ((w.alloc (.cells (K .u32 hs) 23)).alloc (.cells (K .u32 (List.replicate 8 0)) 23))
  generalize hWW : (w.alloc (.cells (K .u32 hs) 23)).alloc (.cells (K .u32 (List.replicate 8 0)) 23) = W at hb n0 n1 ⊢
  have hW : W.heap.size = w.heap.size + 1 + 1 := by rw [← hWW]; simp
  clear hWW
  generalize hB : w.heap.size = B at *
  have N0 := TW.hide n0
  have N1 := TW.hide n1
  have NB := TW.hide hb
  have IZ := TW.hide iz
  clear n0 n1 hb iz
  clear hW
  have hne : (((l : Int)).tmod 64 != 0) = true := by rw [Int.tmod_eq_emod_of_nonneg (by omega)]; simp; omega
  have Y1 := TW.hide (setRow_heap _ _ _ (K .u32 (List.replicate 8 0)) _ _ N1.out)
  go_wp2_with (first | (refine wpList_buildTo_ (by rfl) 23 _ (by rfl) (.agg (K .u32 (List.replicate 8 0))) (by kernel_rfl) ?_; simp only [Act.put, List.setIfInBounds_toArray, List.set_cons_zero, List.set_cons_succ, List.getElem_toArray, List.getElem_cons_zero, List.getElem_cons_succ]) | (refine wpList_store_row (by rfl) 23 _ _ (by rfl) (B + 1) (K .u32 (List.replicate 8 0)) (by rfl) (by rfl) 23 _ N1.out IZ.out rfl (K_one _ _) ?_))
  refine bodyPost_ret (v := .tuple #[.agg (K .u32 (List.replicate 8 0)), .int .u64 0, .int .i64 1]) (results_row_tmps2 (P := Tryd.prog) Tryd.results10 _ _ (B + 1) 23 _ (0, 0) _ _ _ (by rfl) (by rfl) (by rfl) Y1.out Tryd.underlying23 rfl IZ.out) rfl ?_
  exact ⟨rfl, below_setRow NB.out (by omega)⟩
end MX
end Go.Proofs.YtecepllidmkmhabDoor
