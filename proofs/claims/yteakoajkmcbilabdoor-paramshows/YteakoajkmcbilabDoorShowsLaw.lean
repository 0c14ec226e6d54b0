/-
  The walk of ParamShows: the program's line and the document's are one.
-/
import Derived.Test.YteakoajkmcbilabDoorRShow
namespace Go.Proofs.YteakoajkmcbilabDoor
open Go.RowKit
set_option linter.unusedVariables false
set_option linter.unusedSimpArgs false
namespace LW
open Words
theorem len_of_ck {kd : Int} {p : Pm} {sl tl : Nat} (h : p.ck kd sl tl = 0) : sl ≤ 64 ∧ tl ≤ 64 := by
  unfold Pm.ck at h
  rcases ck_kind h with rfl | rfl
  · simp only [LW.ck, if_true] at h
    have := ckG_may h
    exact ⟨by omega, by omega⟩
  · simp only [LW.ck, if_true, show ((2 : Int) = 1) = False by simp, if_false] at h
    have := ckG_may h
    exact ⟨by omega, by omega⟩
theorem pb_of_own {w : World} {B : Nat} {v : Value} {zs : List Int} (h : w.ownsRow B 5 1 v zs.length (vs zs)) (hz : Byt zs) (hl : zs.length ≤ 140737488351232) : ∃ a c, v = .slice a zs.length c ∧ Pb w a c zs := by
  obtain ⟨a, c, e, hr, _, hc, hn, _⟩ := own_open h
  exact ⟨a, c, e, hr, hn, hl, hc, hz⟩
theorem showP (kd : Int) (p : Pm) (hp : p.Ok) (sa ta : Option Addr) (sc tc : Nat) (s t : List Int) (w : World) (h1 : Pb w sa sc s) (h2 : Pb w ta tc t)
    (htab : ∀ W, Below w.heap.size w W → Lib.TabIs Tryd.prog W "internal/strconv.uint64pow10" .u64 Lib.pow10Tab) :
    Calls Tryd.prog 6 #[.int .i64 kd, .agg (pcP p (.slice sa s.length sc) (.slice ta t.length tc))] w fun e w' => e = .returned (.tuple #[.string (strOfNums (shL (p.ck kd s.length t.length) kd p s t)), .int .i64 (p.ck kd s.length t.length)]) ∧ Below w.heap.size w w' := by
  by_cases hE : p.ck kd s.length t.length = 0
  · have hl := len_of_ck hE
    have hs := tr_le s
    have ht := tr_le t
    have e : shL (p.ck kd s.length t.length) kd p s t = lnL kd p (tr s) (tr t) 11 := by rw [shL, if_pos hE]
    rw [e, hE]
    have hk : kd = 1 ∨ kd = 2 := ck_kind hE
    refine showOk kd hk p hp (may_of_ck hE) sa ta sc tc s t (tr s) (tr t) w (fun W hb => ?_) (by omega) (by omega) (Byt.tr h1.byt) (Byt.tr h2.byt) htab
    refine (normalP kd p hp sa ta sc tc s t W (h1.below hb) (h2.below hb)).mono ?_
    rintro e w' ⟨x, y, rfl, ox, oy, hb'⟩
    simp only [hE, nP, nS, if_true] at ox oy ⊢
    obtain ⟨a1, c1, rfl, q1⟩ := pb_of_own ox (Byt.tr h1.byt) (by omega)
    obtain ⟨a2, c2, rfl, q2⟩ := pb_of_own oy (Byt.tr h2.byt) (by omega)
    exact ⟨a1, c1, a2, c2, rfl, q1, q2, hb'⟩
  · have e : shL (p.ck kd s.length t.length) kd p s t = [] := by rw [shL, if_neg hE]
    rw [e]
    exact showE kd p hp sa ta sc tc s t w h1 h2 _ rfl hE
theorem rshowP (kd : Int) (p : Pm) (hp : p.Ok) (sa ta : Option Addr) (sc tc : Nat) (s t : List Int) (w : World) (h1 : Pb w sa sc s) (h2 : Pb w ta tc t) :
    Calls Tryd.prog 8 #[.int .i64 kd, .agg (pcP p (.slice sa s.length sc) (.slice ta t.length tc))] w fun e w' => e = .returned (.tuple #[.string (strOfNums (shL (p.ck kd s.length t.length) kd p s t)), .int .i64 (p.ck kd s.length t.length)]) ∧ Below w.heap.size w w' := by
  by_cases hE : p.ck kd s.length t.length = 0
  · have hl := len_of_ck hE
    have hs := tr_le s
    have ht := tr_le t
    have e : shL (p.ck kd s.length t.length) kd p s t = lnL kd p (tr s) (tr t) 11 := by rw [shL, if_pos hE]
    rw [e, hE]
    have hk : kd = 1 ∨ kd = 2 := ck_kind hE
    refine rshowOk kd hk p hp (may_of_ck hE) sa ta sc tc s t (tr s) (tr t) w (fun W hb => ?_) (by omega) (by omega) (Byt.tr h1.byt) (Byt.tr h2.byt)
    refine (rnormalP kd p hp sa ta sc tc s t W (h1.below hb) (h2.below hb)).mono ?_
    rintro e w' ⟨x, y, rfl, ox, oy, hb'⟩
    simp only [hE, nP, nS, if_true] at ox oy ⊢
    obtain ⟨a1, c1, rfl, q1⟩ := pb_of_own ox (Byt.tr h1.byt) (by omega)
    obtain ⟨a2, c2, rfl, q2⟩ := pb_of_own oy (Byt.tr h2.byt) (by omega)
    exact ⟨a1, c1, a2, c2, rfl, q1, q2, hb'⟩
  · have e : shL (p.ck kd s.length t.length) kd p s t = [] := by rw [shL, if_neg hE]
    rw [e]
    exact rshowE kd p hp sa ta sc tc s t w h1 h2 _ rfl hE
set_option maxRecDepth 100000 in
set_option maxHeartbeats 2000000 in
theorem shows (kd : Int) (p : Pm) (sa ta : Option Addr) (sc tc : Nat) (s t : List Int) (w : World) (hp : p.Ok) (h1 : Pb w sa sc s) (h2 : Pb w ta tc t)
    (htab : ∀ W, Below w.heap.size w W → Lib.TabIs Tryd.prog W "internal/strconv.uint64pow10" .u64 Lib.pow10Tab) :
    Calls Tryd.prog 3 #[.int .i64 kd, .agg (pcP p (.slice sa s.length sc) (.slice ta t.length tc))] w fun e w' => e = .returned (.bool true) ∧ Below w.heap.size w w' := by
  have hco : ∀ W, Below w.heap.size w W → Calls Tryd.prog 7 #[.agg (pcP p (.slice sa s.length sc) (.slice ta t.length tc))] W fun e w' => ∃ a1 c1 a2 c2, e = .returned (.agg (pcP p (.slice a1 s.length c1) (.slice a2 t.length c2))) ∧ Pb w' a1 c1 s ∧ Pb w' a2 c2 t ∧ Below W.heap.size W w' := fun W hb => by
    have g1 := h1.below hb
    have g2 := h2.below hb
    refine (copiedP p sa ta sc tc s t W g1.row g2.row g1.nil g2.nil g1.len g2.len).mono ?_
    rintro e w' ⟨x, y, rfl, ox, oy, hb'⟩
    obtain ⟨a1, c1, rfl, q1⟩ := pb_of_own ox h1.byt h1.len
    obtain ⟨a2, c2, rfl, q2⟩ := pb_of_own oy h2.byt h2.len
    exact ⟨a1, c1, a2, c2, rfl, q1, q2, hb'⟩
  have hsh := fun (W : World) (hb : Below w.heap.size w W) (a1 a2 : Option Addr) (c1 c2 : Nat) (g1 : Pb W a1 c1 s) (g2 : Pb W a2 c2 t) => showP kd p hp a1 a2 c1 c2 s t W g1 g2 (fun Z hZ => htab Z (hb.trans (hZ.mono hb.size)))
  have hrs := fun (W : World) (hb : Below w.heap.size w W) => rshowP kd p hp sa ta sc tc s t W (h1.below hb) (h2.below hb)
  have HCO := TW.hide hco
  have HSH := TW.hide hsh
  have HRS := TW.hide hrs
  clear hco hsh hrs h1 h2 htab
  generalize shL (p.ck kd s.length t.length) kd p s t = L at *
  generalize p.ck kd s.length t.length = E at *
  have n0 := heap_new w (.cells (pcP p (.slice sa s.length sc) (.slice ta t.length tc)) 26)
  have b0 := (Below.refl w.heap.size w).alloc (Nat.le_refl _) (.cells (pcP p (.slice sa s.length sc) (.slice ta t.length tc)) 26)
  have hee : (E == E) = true := by simp
  have hll : ((strOfNums L).toList == (strOfNums L).toList) = true := by simp
  go_enter Tryd.func3, Tryd.ntmps3
  refine wp_seq_k fun KK hK => ?_
  have HK := TW.hide hK
  clear hK
  go_wp2
  refine HK.out _ _ ?_
  clear HK KK
  change Code.wp _ _ _ _ (w.alloc (.cells (pcP p (.slice sa s.length sc) (.slice ta t.length tc)) 26))
  generalize w.alloc (.cells (pcP p (.slice sa s.length sc) (.slice ta t.length tc)) 26) = W at n0 b0 ⊢
  generalize hB : w.heap.size = B at *
  have N0 := TW.hide n0
  have B0 := TW.hide b0
  clear n0 b0 hB
  go_wp2_with (refine wpList_val (.agg (pcP p (.slice sa s.length sc) (.slice ta t.length tc))) (by rfl) (exec_load_row' 26 _ (by rfl) (B) (by rfl) 26 (pcP p (.slice sa s.length sc) (.slice ta t.length tc)) (0, 0) _ N0.out Tryd.underlying26 rfl (info31 _ _ _)) ?_)
  refine (HCO.out _ B0.out).mono ?_
  rintro e w1 ⟨a1, c1, a2, c2, rfl, pa, pb, hb⟩
  have N1 := TW.hide (blk_keep N0.out hb)
  have B1 : Hid (Below B w w1) := below_row B0.out hb (by have := blk_lt N0.out; omega)
  have PA := TW.hide pa
  have PB := TW.hide pb
  clear hb N0 B0 pa pb
  go_wp2_with fail
  refine (HSH.out _ B1.out _ _ _ _ PA.out PB.out).mono ?_
  rintro e w2 ⟨rfl, hb⟩
  have N2 := TW.hide (blk_keep N1.out hb)
  have B2 : Hid (Below B w w2) := below_row B1.out hb (by have := blk_lt N1.out; omega)
  clear hb N1 B1 PA PB
  go_wp2_with (refine wpList_val (.agg (pcP p (.slice sa s.length sc) (.slice ta t.length tc))) (by rfl) (exec_load_row' 26 _ (by rfl) (B) (by rfl) 26 (pcP p (.slice sa s.length sc) (.slice ta t.length tc)) (0, 0) _ N2.out Tryd.underlying26 rfl (info31 _ _ _)) ?_)
  refine (HRS.out _ B2.out).mono ?_
  rintro e w3 ⟨rfl, hb⟩
  have B3 : Hid (Below B w w3) := below_row B2.out hb (by have := blk_lt N2.out; omega)
  clear hb N2 B2
  go_wp2
  go_ret
  exact ⟨rfl, B3.out⟩
end LW
end Go.Proofs.YteakoajkmcbilabDoor
