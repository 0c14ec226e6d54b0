/-
  Over of the document; the law on Xor, Mix and Over.
-/
import Derived.Test.YtkgemkfajkcgcaaDoorRk3
import Derived.Test.YtkgemkfajkcgcaaDoorSame
import Derived.Test.YtkgemkfajkcgcaaDoorBlW
namespace Go.Proofs.YtkgemkfajkcgcaaDoor
open Go.RowKit
set_option linter.unusedVariables false
set_option linter.unusedSimpArgs false
set_option maxRecDepth 100000
namespace LW
open Turn
open Words
attribute [local go_sem ↓] Go.wp_at_zero Go.wp_at_succ
theorem mbL_length (x y : List Int) : (mbL x y).length = 1024 := xbL_length _ _
theorem mbL_Byt {x y : List Int} (hx : Byt x) (hy : Byt y) : Byt (mbL x y) := xbL_Byt (xbL_Byt hx hy) (byL_Byt _)
set_option maxHeartbeats 4000000 in
theorem rovr (ax : Option Addr) (cx : Nat) (x : List Int) (ay : Option Addr) (cy : Nat) (y : List Int) (ad : Option Addr) (cd : Nat) (d : List Int) (w : World) (hx : Byt x) (rx : Row w ax x) (hy : Byt y) (ry : Row w ay y) (hd : Byt d) (rd : Row w ad d) :
    Calls Tryd.prog 17 #[.slice ax x.length cx, .slice ay y.length cy, .slice ad d.length cd] w (AnU w (decide (x.length = 1024) && decide (y.length = 1024) && decide (d.length = 1024)) (xbL (mbL x y) d)) := by
  have HXO := TW.hide (rmix ax cx x ay cy y w hx rx hy ry)
  have HRd : Hid (∀ X, Below w.heap.size w X → Row X ad d) := fun X hX => rd.below hX
  have HMB : Hid (Byt (mbL x y)) := mbL_Byt hx hy
  have HML : Hid ((mbL x y).length = 1024) := mbL_length x y
  have HDB : Hid (Byt d) := hd
  unfold AnU at HXO
  generalize (decide (x.length = 1024) && decide (y.length = 1024)) = ok at *
  generalize mbL x y = m at *
  clear hx rx hy ry hd rd
  cases ok with
  | false =>
    have HQ : Hid (∀ W, Below w.heap.size w W → AnU w (false && decide (d.length = 1024)) (xbL m d) (.returned (.tuple #[.slice none 0 0, .int .i64 1])) W) := fun W hW => ⟨_, rfl, World.ownsRow_nil _ _ _ _, hW⟩
    go_enter Tryd.func17, Tryd.ntmps17
    go_wp2_with fail
    refine HXO.out.mono ?_
    rintro e w1 ⟨v, rfl, _, hb⟩
    go_wp2
    exact bodyPost_ret (v := .tuple #[.slice none 0 0, .int .i64 1]) (by simp [results, Tryd.results17, go_sem]) rfl (HQ.out _ hb)
  | true =>
    by_cases ld : d.length = 1024
    · have hok : (true && decide (d.length = 1024)) = true := by simp [ld]
      rw [hok, ld]
      go_enter Tryd.func17, Tryd.ntmps17
      go_wp2_with fail
      refine HXO.out.mono ?_
      rintro e w1 ⟨v, rfl, ho, hb⟩
      simp only [if_true] at ho
      obtain ⟨am, cm, rfl, hrow, _⟩ := row_of_own ho
      have hxo := rxor am cm m ad cd d w1 HMB.out hrow HDB.out (HRd.out w1 hb)
      have hok2 : (decide (m.length = 1024) && decide (d.length = 1024)) = true := by rw [HML.out, ld]; rfl
      rw [hok2, HML.out, ld] at hxo
      unfold AnU at hxo
      simp only [if_true, xbL_length] at hxo
      rw [HML.out]
      have HXO2 := TW.hide hxo
      have NW : Hid (Below w.heap.size w w1) := hb
      clear hxo hok2 ho hrow hb HXO HRd hok ld
      go_wp2_with fail
      refine HXO2.out.mono ?_
      rintro e w9 ⟨v, rfl, ho, hb⟩
      have HQ : AnU w true (xbL m d) (.returned (.tuple #[v, .int .i64 0])) w9 := ⟨v, rfl, by simp only [if_true, xbL_length]; exact own_low ho NW.out.size, NW.out.trans (hb.mono NW.out.size)⟩
      clear ho hb
      go_wp2
      exact bodyPost_ret (v := .tuple #[v, .int .i64 0]) (by simp [results, Tryd.results17, go_sem]) rfl HQ
    · have hok : (true && decide (d.length = 1024)) = false := by simp [ld]
      have kd : ((d.length : Int) != 1024) = true := by simp; omega
      rw [hok]
      have HQ : Hid (∀ W, Below w.heap.size w W → AnU w false (xbL m d) (.returned (.tuple #[.slice none 0 0, .int .i64 1])) W) := fun W hW => ⟨_, rfl, World.ownsRow_nil _ _ _ _, hW⟩
      clear hok ld
      go_enter Tryd.func17, Tryd.ntmps17
      go_wp2_with fail
      refine HXO.out.mono ?_
      rintro e w1 ⟨v, rfl, _, hb⟩
      go_wp2
      exact bodyPost_ret (v := .tuple #[.slice none 0 0, .int .i64 1]) (by simp [results, Tryd.results17, go_sem]) rfl (HQ.out _ hb)
theorem lsame (a a' : Option Addr) (cap cap' : Nat) (zs ys : List Int) (w : World) (hr : Row w a zs) (hr' : Row w a' ys) (hm : zs.length ≤ maxLen) (hm' : ys.length ≤ maxLen) :
    Calls Tryd.prog 13 #[.slice a zs.length cap, .slice a' ys.length cap'] w fun e w' => e = .returned (.bool (decide (zs = ys))) ∧ ∃ q, w' = w.drewN q := by
  have HS := TW.hide (same a a' cap cap' zs ys w hr hr' hm hm')
  clear hr hr' hm hm'
  go_enter Tryd.func13, Tryd.ntmps13
  go_wp2_with fail
  refine HS.out.mono ?_
  rintro e w' ⟨rfl, q, rfl⟩
  go_wp2
  go_ret
  exact ⟨rfl, q, rfl⟩
theorem lsame1 (a a' : Option Addr) (cap cap' : Nat) (zs : List Int) (w : World) (hr : Row w a zs) (hr' : Row w a' zs) (hm : zs.length ≤ maxLen) :
    Calls Tryd.prog 13 #[.slice a zs.length cap, .slice a' zs.length cap'] w fun e w' => e = .returned (.bool true) ∧ ∃ q, w' = w.drewN q := by
  have h := lsame a a' cap cap' zs zs w hr hr' hm hm
  rw [decide_eq_true rfl] at h
  exact h
theorem ans_row {w w' : World} {ok : Bool} {zs : List Int} {e : Ending} (h : AnU w ok zs e w') : ∃ a c, e = .returned (.tuple #[.slice a (if ok then zs else []).length c, .int .i64 (if ok then 0 else 1)]) ∧ Row w' a (if ok then zs else []) ∧ (if ok then zs else []).length ≤ maxLen ∧ Below w.heap.size w w' := by
  obtain ⟨v, rfl, ho, hb⟩ := h
  obtain ⟨a, c, rfl, hr, hm⟩ := row_of_own ho
  exact ⟨a, c, rfl, hr, hm, hb⟩
set_option maxHeartbeats 8000000 in
theorem mixesW (ax : Option Addr) (cx : Nat) (x : List Int) (ay : Option Addr) (cy : Nat) (y : List Int) (ad : Option Addr) (cd : Nat) (d : List Int) (w : World) (hp : Tab w 0 .u8 plL) (hx : Byt x) (rx : Row w ax x) (hy : Byt y) (ry : Row w ay y) (hd : Byt d) (rd : Row w ad d) :
    Calls Tryd.prog 4 #[.slice ax x.length cx, .slice ay y.length cy, .slice ad d.length cd] w fun e w' => e = .returned (.bool true) ∧ Below w.heap.size w w' := by
  have H1 : Hid (∀ W, Below w.heap.size w W → Calls Tryd.prog 11 #[.slice ax x.length cx, .slice ay y.length cy] W fun e w' => ∃ a c, e = .returned (.tuple #[.slice a (if (decide (x.length = 1024) && decide (y.length = 1024)) then xbL x y else []).length c, .int .i64 (if (decide (x.length = 1024) && decide (y.length = 1024)) then (0 : Int) else 1)]) ∧ Row w' a (if (decide (x.length = 1024) && decide (y.length = 1024)) then xbL x y else []) ∧ (if (decide (x.length = 1024) && decide (y.length = 1024)) then xbL x y else []).length ≤ maxLen ∧ Below W.heap.size W w') := fun W hW => (bxor ax cx x ay cy y W hx (rx.below hW) hy (ry.below hW) (hp.below hW)).mono fun e w' h => ans_row h
  have H2 : Hid (∀ W, Below w.heap.size w W → Calls Tryd.prog 12 #[.slice ax x.length cx, .slice ay y.length cy] W fun e w' => ∃ a c, e = .returned (.tuple #[.slice a (if (decide (x.length = 1024) && decide (y.length = 1024)) then xbL x y else []).length c, .int .i64 (if (decide (x.length = 1024) && decide (y.length = 1024)) then (0 : Int) else 1)]) ∧ Row w' a (if (decide (x.length = 1024) && decide (y.length = 1024)) then xbL x y else []) ∧ (if (decide (x.length = 1024) && decide (y.length = 1024)) then xbL x y else []).length ≤ maxLen ∧ Below W.heap.size W w') := fun W hW => (rxor ax cx x ay cy y W hx (rx.below hW) hy (ry.below hW)).mono fun e w' h => ans_row h
  have H3 : Hid (∀ W, Below w.heap.size w W → Calls Tryd.prog 14 #[.slice ax x.length cx, .slice ay y.length cy] W fun e w' => ∃ a c, e = .returned (.tuple #[.slice a (if (decide (x.length = 1024) && decide (y.length = 1024)) then mbL x y else []).length c, .int .i64 (if (decide (x.length = 1024) && decide (y.length = 1024)) then (0 : Int) else 1)]) ∧ Row w' a (if (decide (x.length = 1024) && decide (y.length = 1024)) then mbL x y else []) ∧ (if (decide (x.length = 1024) && decide (y.length = 1024)) then mbL x y else []).length ≤ maxLen ∧ Below W.heap.size W w') := fun W hW => (bmix ax cx x ay cy y W hx (rx.below hW) hy (ry.below hW) (hp.below hW)).mono fun e w' h => ans_row h
  have H4 : Hid (∀ W, Below w.heap.size w W → Calls Tryd.prog 15 #[.slice ax x.length cx, .slice ay y.length cy] W fun e w' => ∃ a c, e = .returned (.tuple #[.slice a (if (decide (x.length = 1024) && decide (y.length = 1024)) then mbL x y else []).length c, .int .i64 (if (decide (x.length = 1024) && decide (y.length = 1024)) then (0 : Int) else 1)]) ∧ Row w' a (if (decide (x.length = 1024) && decide (y.length = 1024)) then mbL x y else []) ∧ (if (decide (x.length = 1024) && decide (y.length = 1024)) then mbL x y else []).length ≤ maxLen ∧ Below W.heap.size W w') := fun W hW => (rmix ax cx x ay cy y W hx (rx.below hW) hy (ry.below hW)).mono fun e w' h => ans_row h
  have H5 : Hid (∀ W, Below w.heap.size w W → Calls Tryd.prog 16 #[.slice ax x.length cx, .slice ay y.length cy, .slice ad d.length cd] W fun e w' => ∃ a c, e = .returned (.tuple #[.slice a (if (decide (x.length = 1024) && decide (y.length = 1024) && decide (d.length = 1024)) then xbL (mbL x y) d else []).length c, .int .i64 (if (decide (x.length = 1024) && decide (y.length = 1024) && decide (d.length = 1024)) then (0 : Int) else 1)]) ∧ Row w' a (if (decide (x.length = 1024) && decide (y.length = 1024) && decide (d.length = 1024)) then xbL (mbL x y) d else []) ∧ (if (decide (x.length = 1024) && decide (y.length = 1024) && decide (d.length = 1024)) then xbL (mbL x y) d else []).length ≤ maxLen ∧ Below W.heap.size W w') := fun W hW => (bovr ax cx x ay cy y ad cd d W hx (rx.below hW) hy (ry.below hW) hd (rd.below hW) (hp.below hW)).mono fun e w' h => ans_row h
  have H6 : Hid (∀ W, Below w.heap.size w W → Calls Tryd.prog 17 #[.slice ax x.length cx, .slice ay y.length cy, .slice ad d.length cd] W fun e w' => ∃ a c, e = .returned (.tuple #[.slice a (if (decide (x.length = 1024) && decide (y.length = 1024) && decide (d.length = 1024)) then xbL (mbL x y) d else []).length c, .int .i64 (if (decide (x.length = 1024) && decide (y.length = 1024) && decide (d.length = 1024)) then (0 : Int) else 1)]) ∧ Row w' a (if (decide (x.length = 1024) && decide (y.length = 1024) && decide (d.length = 1024)) then xbL (mbL x y) d else []) ∧ (if (decide (x.length = 1024) && decide (y.length = 1024) && decide (d.length = 1024)) then xbL (mbL x y) d else []).length ≤ maxLen ∧ Below W.heap.size W w') := fun W hW => (rovr ax cx x ay cy y ad cd d W hx (rx.below hW) hy (ry.below hW) hd (rd.below hW)).mono fun e w' h => ans_row h
  generalize (if (decide (x.length = 1024) && decide (y.length = 1024)) then xbL x y else []) = l1 at *
  generalize (if (decide (x.length = 1024) && decide (y.length = 1024)) then mbL x y else []) = l2 at *
  generalize (if (decide (x.length = 1024) && decide (y.length = 1024) && decide (d.length = 1024)) then xbL (mbL x y) d else []) = l3 at *
  generalize (if (decide (x.length = 1024) && decide (y.length = 1024)) then (0 : Int) else 1) = e1 at *
  generalize (if (decide (x.length = 1024) && decide (y.length = 1024) && decide (d.length = 1024)) then (0 : Int) else 1) = e3 at *
  have k1 : (e1 != e1) = false := by simp
  have k3 : (e3 == e3) = true := by simp
  clear hp hx rx hy ry hd rd
  go_enter Tryd.func4, Tryd.ntmps4
  go_wp2_with fail
  refine (H1.out w (Below.refl _ _)).mono ?_
  rintro e w1 ⟨a1, c1, rfl, r1, m1, hb⟩
  have NB1 : Hid (Below w.heap.size w w1) := hb
  have R1 := TW.hide r1
  clear hb r1 m1
  go_wp2_with fail
  refine (H2.out w1 NB1.out).mono ?_
  rintro e w2 ⟨a2, c2, rfl, r2, m2, hb⟩
  have NB2 : Hid (Below w.heap.size w w2) := NB1.out.trans (hb.mono NB1.out.size)
  have HRa : Hid (Row w2 a1 l1) := R1.out.below hb
  have HRb : Hid (Row w2 a2 l1) := r2
  have HM : Hid (l1.length ≤ maxLen) := m2
  clear hb r2 m2 R1 NB1
  go_wp2_with fail
  refine (lsame1 a1 a2 c1 c2 l1 w2 HRa.out HRb.out HM.out).mono ?_
  rintro e w' ⟨rfl, q2, rfl⟩
  have NB2q : Hid (Below w.heap.size w (w2.drewN q2)) := below_drewN NB2.out _
  clear HRa HRb HM NB2
  generalize w2.drewN q2 = v2 at *
  go_wp2_with fail
  refine (H3.out v2 NB2q.out).mono ?_
  rintro e w3 ⟨a3, c3, rfl, r3, m3, hb⟩
  have NB3 : Hid (Below w.heap.size w w3) := NB2q.out.trans (hb.mono NB2q.out.size)
  have R3 := TW.hide r3
  clear hb r3 m3 NB2q
  go_wp2_with fail
  refine (H4.out w3 NB3.out).mono ?_
  rintro e w4 ⟨a4, c4, rfl, r4, m4, hb⟩
  have NB4 : Hid (Below w.heap.size w w4) := NB3.out.trans (hb.mono NB3.out.size)
  have HRa : Hid (Row w4 a3 l2) := R3.out.below hb
  have HRb : Hid (Row w4 a4 l2) := r4
  have HM : Hid (l2.length ≤ maxLen) := m4
  clear hb r4 m4 R3 NB3
  go_wp2_with fail
  refine (lsame1 a3 a4 c3 c4 l2 w4 HRa.out HRb.out HM.out).mono ?_
  rintro e w' ⟨rfl, q4, rfl⟩
  have NB4q : Hid (Below w.heap.size w (w4.drewN q4)) := below_drewN NB4.out _
  clear HRa HRb HM NB4
  generalize w4.drewN q4 = v4 at *
  go_wp2_with fail
  refine (H5.out v4 NB4q.out).mono ?_
  rintro e w5 ⟨a5, c5, rfl, r5, m5, hb⟩
  have NB5 : Hid (Below w.heap.size w w5) := NB4q.out.trans (hb.mono NB4q.out.size)
  have R5 := TW.hide r5
  clear hb r5 m5 NB4q
  go_wp2_with fail
  refine (H6.out w5 NB5.out).mono ?_
  rintro e w6 ⟨a6, c6, rfl, r6, m6, hb⟩
  have NB6 : Hid (Below w.heap.size w w6) := NB5.out.trans (hb.mono NB5.out.size)
  have HRa : Hid (Row w6 a5 l3) := R5.out.below hb
  have HRb : Hid (Row w6 a6 l3) := r6
  have HM : Hid (l3.length ≤ maxLen) := m6
  clear hb r6 m6 R5 NB5
  go_wp2_with fail
  refine (lsame1 a5 a6 c5 c6 l3 w6 HRa.out HRb.out HM.out).mono ?_
  rintro e w' ⟨rfl, q6, rfl⟩
  have NB6q : Hid (Below w.heap.size w (w6.drewN q6)) := below_drewN NB6.out _
  clear HRa HRb HM NB6
  generalize w6.drewN q6 = v6 at *
  go_wp2_with fail
  refine (awake19 _).mono ?_
  rintro e w9 ⟨rfl, hb⟩
  have HR9 : Hid (Below w.heap.size w w9) := NB6q.out.trans (hb.mono NB6q.out.size)
  clear hb
  go_wp2
  go_ret
  exact ⟨rfl, HR9.out⟩
end LW
end Go.Proofs.YtkgemkfajkcgcaaDoor
