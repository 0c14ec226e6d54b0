/-
  What the call Show (the program) gives, for all parameters.
-/
import Derived.Test.YteakoajkmcbilabDoorUnsaid
namespace Go.Proofs.YteakoajkmcbilabDoor
open Go.RowKit
set_option linter.unusedVariables false
set_option linter.unusedSimpArgs false
namespace LW
open Words
theorem info62 (f : Int) (nm : ByteArray) (y2 y3 y4 y5 y6 : Int) : (Tryd.prog.info? 62).map (·.size) = some (rwC f nm y2 y3 y4 y5 y6).size := by
  show (Tryd.prog.info? 62).map (·.size) = some 7
  kernel_rfl
theorem rw_one (f : Int) (nm : ByteArray) (y2 y3 y4 y5 y6 : Int) : (rwC f nm y2 y3 y4 y5 y6).all (·.oneCell') = true := by simp [rwC, Value.oneCell']
set_option maxRecDepth 100000 in
set_option maxHeartbeats 2000000 in
theorem showE (kd : Int) (p : Pm) (hp : p.Ok) (sa ta : Option Addr) (sc tc : Nat) (s t : List Int) (w : World) (h1 : Pb w sa sc s) (h2 : Pb w ta tc t) (E : Int) (hck : p.ck kd s.length t.length = E) (hE : ¬ E = 0) :
    Calls Tryd.prog 6 #[.int .i64 kd, .agg (pcP p (.slice sa s.length sc) (.slice ta t.length tc))] w fun e w' => e = .returned (.tuple #[.string .empty, .int .i64 E]) ∧ Below w.heap.size w w' := by
  have hno : ∀ W, Below w.heap.size w W → Calls Tryd.prog 17 #[.int .i64 kd, .agg (pcP p (.slice sa s.length sc) (.slice ta t.length tc))] W fun e w' => ∃ x y, e = .returned (.tuple #[.agg (pcP Pm.zero x y), .int .i64 E]) ∧ (∃ a c, x = .slice a 0 c) ∧ (∃ a c, y = .slice a 0 c) ∧ Below W.heap.size W w' := fun W hb => by
    refine (normalP kd p hp sa ta sc tc s t W (h1.below hb) (h2.below hb)).mono ?_
    rintro e w' ⟨x, y, rfl, ox, oy, hb'⟩
    rw [hck] at ox oy ⊢
    simp only [nP, nS, hE, if_false] at ox oy ⊢
    obtain ⟨a, c, rfl⟩ := own_form ox
    obtain ⟨a', c', rfl⟩ := own_form oy
    exact ⟨_, _, rfl, ⟨_, _, rfl⟩, ⟨_, _, rfl⟩, hb'⟩
  have hne : (E != 0) = true := bne0 hE
  have HN := TW.hide hno
  clear hno h1 h2 hck hE
  have n0 := heap_new w (.cells (pcP p (.slice sa s.length sc) (.slice ta t.length tc)) 26)
  have b0 := (Below.refl w.heap.size w).alloc (Nat.le_refl _) (.cells (pcP p (.slice sa s.length sc) (.slice ta t.length tc)) 26)
  go_enter Tryd.func6, Tryd.ntmps6
  refine wp_seq_k fun KK hK => ?_
  have HK := TW.hide hK
  clear hK
  go_wp2
  refine HK.out _ _ ?_
  clear HK KK
  change Code.wp _ _ _ _ (w.alloc (.cells (pcP p (.slice sa s.length sc) (.slice ta t.length tc)) 26))
  generalize w.alloc (.cells (pcP p (.slice sa s.length sc) (.slice ta t.length tc)) 26) = W at n0 b0 ⊢
  generalize hB : w.heap.size = B at *
  have N0 := TW.hide n0
  have B0 := TW.hide b0
  have HBB := TW.hide hB
  clear n0 b0 hB
  refine wp_seq_k fun KK hK => ?_
  have HK := TW.hide hK
  clear hK
  go_wp2_with (refine wpList_val (.agg (pcP p (.slice sa s.length sc) (.slice ta t.length tc))) (by rfl) (exec_load_row' 26 _ (by rfl) (B) (by rfl) 26 (pcP p (.slice sa s.length sc) (.slice ta t.length tc)) (0, 0) _ N0.out Tryd.underlying26 rfl (info31 _ _ _)) ?_)
  refine (HN.out _ B0.out).mono ?_
  rintro e w1 ⟨x, y, rfl, ⟨a1, c1, rfl⟩, ⟨a2, c2, rfl⟩, hb⟩
  have B1 : Hid (Below B w w1) := below_row B0.out hb (by have := blk_lt N0.out; omega)
  clear hb
  go_wp2_with (first | (refine wpList_store_row (by rfl) 26 _ _ (by rfl) (w1.heap.size) (pcP Pm.zero (.slice a1 0 c1) (.slice a2 0 c2)) (by rfl) (by rfl) 26 _ (heap_new w1 _) (info31 _ _ _) (pc_size Pm.zero _ _ _ _ _) (pc_one _ _ _ _ _ _ _) ?_))
  have nx := setRow_heap _ _ _ (pcP Pm.zero (.slice a1 0 c1) (.slice a2 0 c2)) _ _ (heap_new w1 (.cells #[.int .i64 0, .int .i64 0, .int .i64 0, .int .i64 0, .int .u32 0, .int .u64 0, .int .u32 0, .int .i64 0, .int .i64 0, .slice none 0 0, .slice none 0 0] 26))
  have bx := below_setRow (cs := (pcP Pm.zero (.slice a1 0 c1) (.slice a2 0 c2))) ((Below.refl w1.heap.size w1).alloc (Nat.le_refl _) (.cells #[.int .i64 0, .int .i64 0, .int .i64 0, .int .i64 0, .int .u32 0, .int .u64 0, .int .u32 0, .int .i64 0, .int .i64 0, .slice none 0 0, .slice none 0 0] 26)) (g := w1.heap.size) (Nat.le_refl _)
  generalize (w1.alloc (.cells #[.int .i64 0, .int .i64 0, .int .i64 0, .int .i64 0, .int .u32 0, .int .u64 0, .int .u32 0, .int .i64 0, .int .i64 0, .slice none 0 0, .slice none 0 0] 26)).setRow w1.heap.size (pcP Pm.zero (.slice a1 0 c1) (.slice a2 0 c2)) = X1 at nx bx ⊢
  have B2 : Hid (Below B w X1) := below_row B1.out bx (by have := B1.out.size; have := HBB.out; omega)
  clear nx bx B1
  refine HK.out _ _ ?_
  clear HK KK
  go_wp2
  go_ret2
  exact ⟨rfl, B2.out⟩
set_option maxRecDepth 100000 in
set_option maxHeartbeats 8000000 in
theorem showOk (kd : Int) (hk : kd = 1 ∨ kd = 2) (p : Pm) (hp : p.Ok) (hmay : p.May) (sa ta : Option Addr) (sc tc : Nat) (s t S T : List Int) (w : World)
    (hno : ∀ W, Below w.heap.size w W → Calls Tryd.prog 17 #[.int .i64 kd, .agg (pcP p (.slice sa s.length sc) (.slice ta t.length tc))] W fun e w' => ∃ a1 c1 a2 c2, e = .returned (.tuple #[.agg (pcP p (.slice a1 S.length c1) (.slice a2 T.length c2)), .int .i64 0]) ∧ Pb w' a1 c1 S ∧ Pb w' a2 c2 T ∧ Below W.heap.size W w')
    (ls : S.length ≤ 64) (lt : T.length ≤ 64) (bs : Byt S) (bt : Byt T)
    (htab : ∀ W, Below w.heap.size w W → Lib.TabIs Tryd.prog W "internal/strconv.uint64pow10" .u64 Lib.pow10Tab) :
    Calls Tryd.prog 6 #[.int .i64 kd, .agg (pcP p (.slice sa s.length sc) (.slice ta t.length tc))] w fun e w' => e = .returned (.tuple #[.string (strOfNums (lnL kd p S T 11)), .int .i64 0]) ∧ Below w.heap.size w w' := by
  have HN := TW.hide hno
  have HT := TW.hide htab
  clear hno htab
  have hlen := fun k (h : k ≤ 11) => lnL_len kd p hp hmay ls lt k h
  have hlb := fun k => lnL_byt kd p bs bt k
  have hus := fun W => unsaid kd hk W
  have hsh := fun (f : Int) (f1 : 1 ≤ f) (f2 : f ≤ 11) (nm : ByteArray) (y2 y3 y4 y5 y6 : Int) (a1 a2 : Option Addr) (c1 c2 : Nat) (W : World) (g1 : Pb W a1 c1 S) (g2 : Pb W a2 c2 T) (hW : ∀ Z, Below W.heap.size W Z → Lib.TabIs Tryd.prog Z "internal/strconv.uint64pow10" .u64 Lib.pow10Tab) => rowShow f nm y2 y3 y4 y5 y6 p hp hmay a1 a2 c1 c2 S T W g1 g2 ls lt f1 f2 hW
  have hsu : ∀ (f : Int) (f1 : 1 ≤ f) (f2 : f ≤ 11) (nm : ByteArray) (y2 y3 y4 y5 y6 : Int) (W : World) (hW : ∀ Z, Below W.heap.size W Z → Lib.TabIs Tryd.prog Z "internal/strconv.uint64pow10" .u64 Lib.pow10Tab), Calls Tryd.prog 22 #[.agg (rwC f nm y2 y3 y4 y5 y6), .agg (pcP (usP kd) (.slice none 0 0) (.slice none 0 0))] W fun e w' => e = .returned (.string (strOfNums (shV (usP kd) [] [] f))) ∧ Below W.heap.size W w' := fun f f1 f2 nm y2 y3 y4 y5 y6 W hW => rowShow f nm y2 y3 y4 y5 y6 (usP kd) (usP_ok kd) (usP_may kd hk) none none 0 0 [] [] W ⟨.inl rfl, fun _ => rfl, by simp, by simp, Byt.nil⟩ ⟨.inl rfl, fun _ => rfl, by simp, by simp, Byt.nil⟩ (by simp) (by simp) f1 f2 hW
  have hwl := fun (f : Int) (h1 : 1 ≤ f) (h2 : f ≤ 11) => shV_len p hp hmay ls lt f h1 h2
  have HLEN := TW.hide hlen
  have HLB := TW.hide hlb
  have HUS := TW.hide hus
  have HSH := TW.hide hsh
  have HSU := TW.hide hsu
  have HWL := TW.hide hwl
  clear hlen hlb hus hsh hsu hwl
  have n0 := heap_new w (.cells (pcP p (.slice sa s.length sc) (.slice ta t.length tc)) 26)
  have b0 := (Below.refl w.heap.size w).alloc (Nat.le_refl _) (.cells (pcP p (.slice sa s.length sc) (.slice ta t.length tc)) 26)
  go_enter Tryd.func6, Tryd.ntmps6
  refine wp_seq_k fun KK hK => ?_
  have HK := TW.hide hK
  clear hK
  go_wp2
  refine HK.out _ _ ?_
  clear HK KK
  change Code.wp _ _ _ _ (w.alloc (.cells (pcP p (.slice sa s.length sc) (.slice ta t.length tc)) 26))
  generalize w.alloc (.cells (pcP p (.slice sa s.length sc) (.slice ta t.length tc)) 26) = W at n0 b0 ⊢
  generalize hB : w.heap.size = B at *
  have N0 := TW.hide n0
  have B0 := TW.hide b0
  have HBB := TW.hide hB
  clear n0 b0 hB
  refine wp_seq_k fun KK hK => ?_
  have HK := TW.hide hK
  clear hK
  go_wp2_with (refine wpList_val (.agg (pcP p (.slice sa s.length sc) (.slice ta t.length tc))) (by rfl) (exec_load_row' 26 _ (by rfl) (B) (by rfl) 26 (pcP p (.slice sa s.length sc) (.slice ta t.length tc)) (0, 0) _ N0.out Tryd.underlying26 rfl (info31 _ _ _)) ?_)
  refine (HN.out _ B0.out).mono ?_
  rintro e w1 ⟨a1, c1, a2, c2, rfl, pa, pb, hb⟩
  have B1 : Hid (Below B w w1) := below_row B0.out hb (by have := blk_lt N0.out; omega)
  clear hb N0 B0
  go_wp2_with (first | (refine wpList_store_row (by rfl) 26 _ _ (by rfl) (w1.heap.size) (pcP p (.slice a1 S.length c1) (.slice a2 T.length c2)) (by rfl) (by rfl) 26 _ (heap_new w1 _) (info31 _ _ _) (pc_size Pm.zero _ _ _ _ _) (pc_one _ _ _ _ _ _ _) ?_))
  have nx := setRow_heap _ _ _ (pcP p (.slice a1 S.length c1) (.slice a2 T.length c2)) _ _ (heap_new w1 (.cells #[.int .i64 0, .int .i64 0, .int .i64 0, .int .i64 0, .int .u32 0, .int .u64 0, .int .u32 0, .int .i64 0, .int .i64 0, .slice none 0 0, .slice none 0 0] 26))
  have bx := below_setRow (cs := (pcP p (.slice a1 S.length c1) (.slice a2 T.length c2))) ((Below.refl w1.heap.size w1).alloc (Nat.le_refl _) (.cells #[.int .i64 0, .int .i64 0, .int .i64 0, .int .i64 0, .int .u32 0, .int .u64 0, .int .u32 0, .int .i64 0, .int .i64 0, .slice none 0 0, .slice none 0 0] 26)) (g := w1.heap.size) (Nat.le_refl _)
  generalize (w1.alloc (.cells #[.int .i64 0, .int .i64 0, .int .i64 0, .int .i64 0, .int .u32 0, .int .u64 0, .int .u32 0, .int .i64 0, .int .i64 0, .slice none 0 0, .slice none 0 0] 26)).setRow w1.heap.size (pcP p (.slice a1 S.length c1) (.slice a2 T.length c2)) = X1 at nx bx ⊢
  have B2 : Hid (Below B w X1) := below_row B1.out bx (by have := B1.out.size; have := HBB.out; omega)
  have PA := TW.hide (pa.below bx)
  have PB := TW.hide (pb.below bx)
  have N6 := TW.hide nx
  clear nx bx B1 pa pb
  generalize w1.heap.size = g6 at *
  refine HK.out _ _ ?_
  clear HK KK
  have bn := bNew X1
  have bb := (Below.refl X1.heap.size X1).alloc (Nat.le_refl _) (.cells #[.pointer none, .slice none 0 0] 52)
  have hX2 : (X1.alloc (.cells #[.pointer none, .slice none 0 0] 52)).heap.size = X1.heap.size + 1 := by simp
  have HBN := TW.hide bn
  have HBX := TW.hide bb
  have HX2 := TW.hide hX2
  clear bn bb hX2
  go_wp2_with fail
  refine (nameOf kd _).mono ?_
  rintro e w' ⟨rfl, rfl⟩
  go_wp2_with fail
  refine (bWrite X1.heap.size X1.heap.size [] (knL kd) _ HBN.out (knL_byt kd) (by have := HLEN.out 0 (by omega); simpa [lnL] using (show (knL kd).length ≤ 1000000 by simp only [lnL] at this; omega)) (by rw [HX2.out]; omega)).mono ?_
  rintro e w3 ⟨⟨v3, rfl⟩, hbl, hbb, hok⟩
  have BL3 : Hid (Bl w3 X1.heap.size X1.heap.size (lnL kd p S T 0)) := hbl
  have BX3 : Hid (Below X1.heap.size X1 w3) := HBX.out.trans hbb
  clear hbl hbb hok HBN HBX HX2
  generalize hbq : X1.heap.size = b at *
  have HBQ := TW.hide hbq
  clear hbq
  go_wp2_with fail
  refine (HUS.out _).mono ?_
  rintro e w4 ⟨rfl, hb⟩
  have BL4 := TW.hide (BL3.out.below hb)
  have hsz3 : b ≤ w3.heap.size := by have := BX3.out.size; have := HBQ.out; omega
  have BX4 : Hid (Below b X1 w4) := below_row BX3.out hb hsz3
  have hsz4 : b < w4.heap.size := by
    have h3 : b < w3.heap.size := by
      rcases BL3.out with h | h <;> exact h.lt
    have := hb.size
    omega
  clear hb BL3 BX3
  go_wp2_with (first | (refine wpList_store_row (by rfl) 26 _ _ (by rfl) (w4.heap.size) (pcP (usP kd) (.slice none 0 0) (.slice none 0 0)) (by rfl) (by rfl) 26 _ (heap_new w4 _) (info31 _ _ _) (pc_size Pm.zero _ _ _ _ _) (pc_one _ _ _ _ _ _ _) ?_))
  have ny := setRow_heap _ _ _ (pcP (usP kd) (.slice none 0 0) (.slice none 0 0)) _ _ (heap_new w4 (.cells #[.int .i64 0, .int .i64 0, .int .i64 0, .int .i64 0, .int .u32 0, .int .u64 0, .int .u32 0, .int .i64 0, .int .i64 0, .slice none 0 0, .slice none 0 0] 26))
  have by_ := below_setRow (cs := (pcP (usP kd) (.slice none 0 0) (.slice none 0 0))) ((Below.refl w4.heap.size w4).alloc (Nat.le_refl _) (.cells #[.int .i64 0, .int .i64 0, .int .i64 0, .int .i64 0, .int .u32 0, .int .u64 0, .int .u32 0, .int .i64 0, .int .i64 0, .slice none 0 0, .slice none 0 0] 26)) (g := w4.heap.size) (Nat.le_refl _)
  generalize (w4.alloc (.cells #[.int .i64 0, .int .i64 0, .int .i64 0, .int .i64 0, .int .u32 0, .int .u64 0, .int .u32 0, .int .i64 0, .int .i64 0, .slice none 0 0, .slice none 0 0] 26)).setRow w4.heap.size (pcP (usP kd) (.slice none 0 0) (.slice none 0 0)) = X4 at ny by_ ⊢
  have BL5 := TW.hide (BL4.out.below by_)
  have BX5 : Hid (Below b X1 X4) := below_row BX4.out by_ (by omega)
  have N9 := TW.hide ny
  have hsz5 : w4.heap.size ≤ X4.heap.size := by_.size
  clear ny by_ BL4 BX4
  generalize w4.heap.size = g9 at *
  go_wp2_with fail
  refine (rows _).mono ?_
  rintro e w5 ⟨rfl, hb⟩
  have BL6 := TW.hide (BL5.out.below hb)
  have BX6 : Hid (Below b X1 w5) := below_row BX5.out hb (by omega)
  have N9' := TW.hide (blk_keep N9.out hb)
  clear hb BL5 BX5 N9
  have hBb : B ≤ b := by have := B2.out.size; have := HBB.out; have := HBQ.out; omega
  have HTX : Hid (∀ W, Below b X1 W → ∀ Z, Below W.heap.size W Z → Lib.TabIs Tryd.prog Z "internal/strconv.uint64pow10" .u64 Lib.pow10Tab) := fun W h1 Z h2 => HT.out Z (by
    refine (B2.out.trans (h1.mono hBb)).trans (h2.mono ?_)
    have := h1.size; have := HBQ.out; omega)
  have HPA : Hid (∀ W, Below b X1 W → Pb W a1 c1 S ∧ Pb W a2 c2 T ∧ W.heap[g6]? = some (.cells (pcP p (.slice a1 S.length c1) (.slice a2 T.length c2)) 26 (0, 0)) ∧ Below B w W ∧ b ≤ W.heap.size) := fun W h => by
    have h' : Below X1.heap.size X1 W := by rw [HBQ.out]; exact h
    exact ⟨PA.out.below h', PB.out.below h', blk_keep N6.out h', B2.out.trans (h.mono hBb), by have := h.size; have := HBQ.out; omega⟩
  clear HT PA PB N6 B2 HN
  go_wp2
  go_loopw [28] (fun i wr => ∃ k : Nat, k ≤ 11 ∧ i = .int .i64 k ∧ Bl wr b b (lnL kd p S T k) ∧ Below b X1 wr ∧ wr.heap[g9]? = some (.cells (pcP (usP kd) (.slice none 0 0) (.slice none 0 0)) 26 (0, 0))) (fun i _ => 11 - (intOf i).toNat)
  case atStart => exact ⟨0, by omega, rfl, BL6.out, BX6.out, N9'.out⟩
  case round =>
    rename_i Q1 K1 a1_
    obtain ⟨k, hk11, rfl, hbl, hbx, hn9⟩ := hrel
    have BL := TW.hide hbl
    have BX := TW.hide hbx
    have N9 := TW.hide hn9
    clear hbl hbx hn9 BL6 BX6 N9'
    by_cases hlt : k < 11
    · have hkI : (k : Int) < 11 := by omega
      have hk0 : (0 : Int) ≤ (k : Int) := by omega
      obtain ⟨f, hf⟩ : ∃ f : Int, f = (k : Int) + 1 := ⟨_, rfl⟩
      have f1 : 1 ≤ f := by omega
      have f2 : f ≤ 11 := by omega
      have hrow : ∀ W : World, (Instr.index 63 (.agg rowsC) (.int .i64 (k : Int))).run Tryd.prog W = .ok (.agg (rwC f (strOfNums (nmL f)) (erOf f) (rAt 1 f) (rSz 1 f) (rAt 2 f) (rSz 2 f))) W := by
        have h := rowAt f f1 f2
        rw [show f - 1 = (k : Int) by omega, nmOf_eq f f1 f2] at h
        exact h
      have hlE := @lnL_eq kd p S T k
      have hlN := @lnL_ne kd p S T k
      rw [← hf] at hlE hlN
      have HLE := TW.hide hlE
      have HLN := TW.hide hlN
      have HF := TW.hide hf
      have hwB : Byt (wdL p S T f) := wdL_byt p bs bt f
      have HWB := TW.hide hwB
      have hwd : wdL p S T f = [32] ++ nmL f ++ [61] ++ shV p S T f := rfl
      have HWD := TW.hide hwd
      have hnl := nmL_len f
      have HNL := TW.hide hnl
      have HVL := TW.hide (HWL.out f f1 f2)
      have HUB : Hid (usB kd p S T f = decide (shV p S T f = shV (usP kd) [] [] f)) := rfl
      have HVB : Hid (Byt (shV p S T f) ∧ Byt (shV (usP kd) [] [] f)) := ⟨shV_byt p bs bt f, shV_byt _ Byt.nil Byt.nil f⟩
      have HS1 := TW.hide (fun nm y2 y3 y4 y5 y6 W h1 h2 h3 => HSH.out f f1 f2 nm y2 y3 y4 y5 y6 a1 a2 c1 c2 W h1 h2 h3)
      have HS2 := TW.hide (fun nm y2 y3 y4 y5 y6 W h3 => HSU.out f f1 f2 nm y2 y3 y4 y5 y6 W h3)
      clear hlE hlN hf hwB hwd hnl
      generalize wdL p S T f = wl at *
      generalize usB kd p S T f = ub at *
      generalize shV p S T f = v1 at *
      generalize shV (usP kd) [] [] f = v2 at *
      generalize nmL f = nl at *
      generalize erOf f = y2 at *
      generalize rAt 1 f = y3 at *
      generalize rSz 1 f = y4 at *
      generalize rAt 2 f = y5 at *
      generalize rSz 2 f = y6 at *
      generalize hnm : strOfNums nl = nm at *
      have HNM := TW.hide hnm
      clear hnm
      have hrb : b ≤ wr.heap.size := (HPA.out _ BX.out).2.2.2.2
      go_wp2_with (first | (refine wpList_store_row (by rfl) 62 _ _ (by rfl) (wr.heap.size) (rwC f nm y2 y3 y4 y5 y6) (by rfl) (by rfl) 62 _ (heap_new wr _) (info62 _ _ _ _ _ _ _) rfl (rw_one _ _ _ _ _ _ _) ?_; have nr := setRow_heap _ _ _ (rwC f nm y2 y3 y4 y5 y6) _ _ (heap_new wr (.cells #[.int .i64 0, .string { data := #[] }, .int .i64 0, .int .i64 0, .int .i64 0, .int .i64 0, .int .i64 0] 62)); have br := below_setRow (cs := (rwC f nm y2 y3 y4 y5 y6)) ((Below.refl wr.heap.size wr).alloc (Nat.le_refl _) (.cells #[.int .i64 0, .string { data := #[] }, .int .i64 0, .int .i64 0, .int .i64 0, .int .i64 0, .int .i64 0] 62)) (g := wr.heap.size) (Nat.le_refl _); generalize (wr.alloc (.cells #[.int .i64 0, .string { data := #[] }, .int .i64 0, .int .i64 0, .int .i64 0, .int .i64 0, .int .i64 0] 62)).setRow wr.heap.size (rwC f nm y2 y3 y4 y5 y6) = Y1 at nr br ⊢; have BL1 := TW.hide (BL.out.below br); have BX1 : Hid (Below b X1 Y1) := below_row BX.out br hrb; have N91 := TW.hide (blk_keep N9.out br); have NR1 := TW.hide nr; have N61 := TW.hide (HPA.out _ BX1.out).2.2.1; clear nr br BL BX N9) | (refine wpList_val (.agg (rwC f nm y2 y3 y4 y5 y6)) (by rfl) (exec_load_row' 62 _ (by rfl) (wr.heap.size) (by rfl) 62 (rwC f nm y2 y3 y4 y5 y6) (0, 0) _ NR1.out Tryd.underlying62 rfl (info62 _ _ _ _ _ _ _)) ?_) | (refine wpList_val (.agg (pcP p (.slice a1 S.length c1) (.slice a2 T.length c2))) (by rfl) (exec_load_row' 26 _ (by rfl) (g6) (by rfl) 26 (pcP p (.slice a1 S.length c1) (.slice a2 T.length c2)) (0, 0) _ N61.out Tryd.underlying26 rfl (info31 _ _ _)) ?_))
      generalize wr.heap.size = r at *
      refine (HS1.out nm y2 y3 y4 y5 y6 Y1 (HPA.out _ BX1.out).1 (HPA.out _ BX1.out).2.1 (HTX.out _ BX1.out)).mono ?_
      rintro e w6 ⟨rfl, hb⟩
      have BL2 := TW.hide (BL1.out.below hb)
      have BX2 : Hid (Below b X1 w6) := below_row BX1.out hb (HPA.out _ BX1.out).2.2.2.2
      have N92 := TW.hide (blk_keep N91.out hb)
      have NR2 := TW.hide (blk_keep NR1.out hb)
      clear hb BL1 BX1 N91 NR1 N61
      go_wp2_with (first | (refine wpList_val (.agg (rwC f nm y2 y3 y4 y5 y6)) (by rfl) (exec_load_row' 62 _ (by rfl) (r) (by rfl) 62 (rwC f nm y2 y3 y4 y5 y6) (0, 0) _ NR2.out Tryd.underlying62 rfl (info62 _ _ _ _ _ _ _)) ?_) | (refine wpList_val (.agg (pcP (usP kd) (.slice none 0 0) (.slice none 0 0))) (by rfl) (exec_load_row' 26 _ (by rfl) (g9) (by rfl) 26 (pcP (usP kd) (.slice none 0 0) (.slice none 0 0)) (0, 0) _ N92.out Tryd.underlying26 rfl (info31 _ _ _)) ?_))
      refine (HS2.out nm y2 y3 y4 y5 y6 w6 (HTX.out _ BX2.out)).mono ?_
      rintro e w7 ⟨rfl, hb⟩
      have BL3 := TW.hide (BL2.out.below hb)
      have BX3 : Hid (Below b X1 w7) := below_row BX2.out hb (HPA.out _ BX2.out).2.2.2.2
      have N93 := TW.hide (blk_keep N92.out hb)
      have NR3 := TW.hide (blk_keep NR2.out hb)
      clear hb BL2 BX2 N92 NR2
      by_cases hv : v1 = v2
      · have hub : ub = true := by rw [HUB.out]; simp [hv]
        have HL1 := TW.hide (HLE.out hub)
        have hne := strOf_eqT hv
        clear hub hv
        go_wp2
        go_roundw
        case rel => exact ⟨k + 1, by omega, by go_num, by rw [HL1.out]; exact BL3.out, BX3.out, N93.out⟩
        case measure => simp [intOf]; omega
      · have hub : ub = false := by rw [HUB.out]; simp [hv]
        have HL1 := TW.hide (HLN.out hub)
        have hne := strOf_eqF HVB.out.1 HVB.out.2 hv
        clear hub hv
        have cn : w7.cell? ⟨r, 1, none⟩ = some (.string nm) := blk_cell (i := 1) NR3.out rfl
        obtain ⟨A1, hA1⟩ : ∃ A1, A1 = ({ data := #[32] } : ByteArray) ++ nm := ⟨_, rfl⟩
        obtain ⟨A2, hA2⟩ : ∃ A2, A2 = A1 ++ ({ data := #[61] } : ByteArray) := ⟨_, rfl⟩
        obtain ⟨A3, hA3⟩ : ∃ A3, A3 = A2 ++ strOfNums v1 := ⟨_, rfl⟩
        have hA1' : A1 = strOfNums ([32] ++ nl) := by rw [hA1, ← HNM.out, ← strOf_append]; rfl
        have hA2' : A2 = strOfNums ([32] ++ nl ++ [61]) := by rw [hA2, hA1', ← strOf_append ([32] ++ nl)]; rfl
        have hA3' : A3 = strOfNums wl := by rw [hA3, hA2', strOf_append, HWD.out]
        have hnms : nm.size = nl.length := by rw [← HNM.out, strOf_size]
        have z1 : ¬ 9223372036854775807 < ({ data := #[32] } : ByteArray).size + nm.size := by
          have h1 : ({ data := #[32] } : ByteArray).size = 1 := rfl
          have := HNL.out
          rw [h1, hnms]; omega
        have z2 : ¬ 9223372036854775807 < A1.size + ({ data := #[61] } : ByteArray).size := by
          have h1 : ({ data := #[61] } : ByteArray).size = 1 := rfl
          have := HNL.out
          rw [h1, hA1', strOf_size]; simp; omega
        have z3 : ¬ 9223372036854775807 < A2.size + (strOfNums v1).size := by
          have := HNL.out
          have := HVL.out
          rw [hA2', strOf_size, strOf_size]; simp; omega
        have HWLN : Hid ((lnL kd p S T k).length + wl.length ≤ 1000000) := by
          have h1 := HLEN.out k (by omega)
          have h2 := HNL.out
          have h3 := HVL.out
          show _ ≤ _
          rw [HWD.out]; simp; omega
        have HA3 := TW.hide hA3'
        have e1 := hA1.symm
        have e2 := hA2.symm
        have e3 := hA3.symm
        clear hA1 hA2 hA3 hA1' hA2' hA3' hnms
        go_wp2_with fail
        rw [HA3.out]
        refine (bWrite b b (lnL kd p S T k) wl w7 BL3.out HWB.out HWLN.out (HPA.out _ BX3.out).2.2.2.2).mono ?_
        rintro e w8 ⟨⟨v8, rfl⟩, hbl, hbb, hok⟩
        have BL4 := TW.hide hbl
        have BX4 : Hid (Below b X1 w8) := BX3.out.trans hbb
        have N94 : Hid (w8.heap[g9]? = some (.cells (pcP (usP kd) (.slice none 0 0) (.slice none 0 0)) 26 (0, 0))) := hok g9 _ N93.out (by simp; omega) (by intro c fz h; simp at h)
        clear hbl hbb hok
        go_wp2
        go_roundw
        case rel => exact ⟨k + 1, by omega, by go_num, by rw [HL1.out]; exact BL4.out, BX4.out, N94.out⟩
        case measure => simp [intOf]; omega
    · obtain rfl : k = 11 := by omega
      have HA := TW.hide a1_
      clear a1_
      go_wp2
      refine HA.out _ _ ?_
      clear HA
      go_wp2_with fail
      refine (bString b b _ wr BL.out (HLB.out 11) (HPA.out _ BX.out).2.2.2.2).mono ?_
      rintro e w9 ⟨rfl, hb⟩
      have F9 : Hid (Below B w w9) := (HPA.out _ BX.out).2.2.2.1.trans (hb.mono hBb)
      clear hb
      go_wp2
      go_ret2
      exact ⟨rfl, F9.out⟩
end LW
end Go.Proofs.YteakoajkmcbilabDoor
