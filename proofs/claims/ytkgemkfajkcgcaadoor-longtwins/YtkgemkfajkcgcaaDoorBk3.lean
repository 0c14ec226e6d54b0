/-
  Xor, Mix and Over of the program.
-/
import Derived.Test.YtkgemkfajkcgcaaDoorBk2
namespace Go.Proofs.YtkgemkfajkcgcaaDoor
open Go.RowKit
set_option linter.unusedVariables false
set_option linter.unusedSimpArgs false
set_option maxRecDepth 100000
namespace LW
open Turn
open Words
attribute [local go_sem ↓] Go.wp_at_zero Go.wp_at_succ
/-- The document's mix, in bytes. -/
def mbL (x y : List Int) : List Int := xbL (xbL x y) (byL (rcL (wdL (xbL x y))))
theorem own_low {w : World} {B C e s n : Nat} {v : Value} {xs : List Value} (h : w.ownsRow B e s v n xs) (hC : C ≤ B) : w.ownsRow C e s v n xs := by
  refine ⟨h.1, ?_⟩
  rcases h.2 with h0 | ⟨g, cap, cur, e, hg, r⟩
  · exact .inl h0
  · exact .inr ⟨g, cap, cur, e, Nat.le_trans hC hg, r⟩
/-- What is told: bytes of one's own, or none and the error. -/
def AnU (w : World) (ok : Bool) (zs : List Int) : Ending → World → Prop := fun e w' => ∃ v, e = .returned (.tuple #[v, .int .i64 (if ok then 0 else 1)]) ∧ w'.ownsRow w.heap.size 5 1 v (if ok then zs else []).length (vs (if ok then zs else [])) ∧ Below w.heap.size w w'
theorem ablk (ls : List (Option Addr × Nat × Nat)) (g cap : Nat) (w : World) (hc : ∀ j, j < ls.length → w.cell? ⟨g, j, none⟩ = some (.slice (ls.getD j (none, 0, 0)).1 (ls.getD j (none, 0, 0)).2.1 (ls.getD j (none, 0, 0)).2.2)) (hn : ls.length ≤ 100) :
    Calls Tryd.prog 25 #[.slice (some ⟨g, 0, none⟩) ls.length cap] w fun e w' => e = .returned (.bool (ls.all (fun l => decide (l.2.1 = 1024)))) ∧ Below w.heap.size w w' := by
  have HCs : Hid (∀ W, Below w.heap.size w W → ∀ j, j < ls.length → W.cell? ⟨g, j, none⟩ = some (.slice (ls.getD j (none, 0, 0)).1 (ls.getD j (none, 0, 0)).2.1 (ls.getD j (none, 0, 0)).2.2)) := fun W hW j hj => by
    have h := hc j hj
    rw [hW.cell (lt_of_cell h)]
    exact h
  obtain ⟨n, hln⟩ : ∃ n, ls.length = n := ⟨_, rfl⟩
  have HLN := TW.hide hln
  rw [hln] at HCs hn ⊢
  clear hc hln
  go_enter Tryd.func25, Tryd.ntmps25
  go_wp2
  go_loopw [7] (fun i wr => ∃ k : Nat, k ≤ n ∧ i = .int .i64 k ∧ (∀ j, j < k → (ls.getD j (none, 0, 0)).2.1 = 1024) ∧ Hid (Below w.heap.size w wr)) (fun i _ => n - (intOf i).toNat)
  case atStart => exact ⟨0, Nat.zero_le _, rfl, fun j hj => absurd hj (by omega), Below.refl _ _⟩
  case round =>
    obtain ⟨k, hk, rfl, hall, NB⟩ := hrel
    have HA := TW.hide hall
    clear hall
    by_cases hlt : k < n
    · have q1 : (k : Int) < (n : Int) := by omega
      have q0 : (0 : Int) ≤ (k : Int) := by omega
      have c0 := HCs.out wr NB.out k hlt
      have HLT : Hid (k < n) := hlt
      obtain ⟨⟨la, ll, lc⟩, hl⟩ : ∃ x, ls.getD k (none, 0, 0) = x := ⟨_, rfl⟩
      have HLL : Hid ((ls.getD k (none, 0, 0)).2.1 = ll) := by show _ = _; rw [hl]
      rw [hl] at c0
      simp only at c0
      clear hl hlt
      by_cases h : ll = 1024
      · have kk : ((ll : Int) != 1024) = false := by simp; omega
        go_wp2
        go_roundw
        case rel =>
          refine ⟨k + 1, HLT.out, by go_num, fun j hj => ?_, NB⟩
          rcases Nat.lt_or_ge j k with h1 | h1
          · exact HA.out j h1
          · obtain rfl : j = k := by omega
            rw [HLL.out]; exact h
        case measure => simp [intOf]; have := HLT.out; omega
      · have kk : ((ll : Int) != 1024) = true := by simp; omega
        have HF : Hid (ls.all (fun l => decide (l.2.1 = 1024)) = false) := by
          show _ = _
          rw [List.all_eq_false]
          refine ⟨ls.getD k (none, 0, 0), ?_, by rw [HLL.out]; simpa using h⟩
          have hk2 : k < ls.length := by rw [HLN.out]; exact HLT.out
          rw [List.getD_eq_getElem?_getD, List.getElem?_eq_getElem hk2]
          exact List.getElem_mem hk2
        clear h
        go_wp2
        go_ret
        exact ⟨LW.ret_bool HF.out.symm, NB.out⟩
    · obtain rfl : k = n := by omega
      have HF : Hid (ls.all (fun l => decide (l.2.1 = 1024)) = true) := by
        show _ = _
        rw [List.all_eq_true]
        intro l hl
        obtain ⟨j, hj, rfl⟩ := List.mem_iff_getElem.1 hl
        have := HA.out j (by rw [← HLN.out]; exact hj)
        rw [List.getD_eq_getElem?_getD, List.getElem?_eq_getElem hj] at this
        simpa using this
      clear HA
      go_wp2
      go_ret
      exact ⟨LW.ret_bool HF.out.symm, NB.out⟩
set_option maxHeartbeats 4000000 in
theorem bxor (ax : Option Addr) (cx : Nat) (x : List Int) (ay : Option Addr) (cy : Nat) (y : List Int) (w : World) (hx : Byt x) (rx : Row w ax x) (hy : Byt y) (ry : Row w ay y) (hp : Tab w 0 .u8 plL) :
    Calls Tryd.prog 11 #[.slice ax x.length cx, .slice ay y.length cy] w (AnU w (decide (x.length = 1024) && decide (y.length = 1024)) (xbL x y)) := by
  have HT : Hid (∀ X, Below w.heap.size w X → Tab X 0 .u8 plL) := fun X hX => hp.below hX
  have HRx : Hid (∀ X, Below w.heap.size w X → Row X ax x) := fun X hX => rx.below hX
  have HRy : Hid (∀ X, Below w.heap.size w X → Row X ay y) := fun X hX => ry.below hX
  have HAB := TW.hide (ablk [(ax, x.length, cx), (ay, y.length, cy)] w.heap.size 2 (w.alloc (.cells #[.slice ax x.length cx, .slice ay y.length cy] 31)) (fun j hj => by
    have h1 := heap_alloc_new w (.cells #[.slice ax x.length cx, .slice ay y.length cy] 31)
    have : j = 0 ∨ j = 1 := by simp at hj; omega
    rcases this with rfl | rfl <;> exact blk_cell h1 rfl) (by simp))
  have HBa : Hid (Below w.heap.size w (w.alloc (.cells #[.slice ax x.length cx, .slice ay y.length cy] 31))) := (Below.refl _ _).alloc (Nat.le_refl _) _
  have hall : ([(ax, x.length, cx), (ay, y.length, cy)].all (fun l => decide (l.2.1 = 1024))) = (decide (x.length = 1024) && decide (y.length = 1024)) := by simp [Bool.and_assoc]
  rw [hall] at HAB
  generalize hok : (decide (x.length = 1024) && decide (y.length = 1024)) = ok at *
  clear hall hp rx ry
  generalize hX0 : w.alloc (.cells #[.slice ax x.length cx, .slice ay y.length cy] 31) = X0 at *
  have HX0 := TW.hide hX0
  clear hX0
  cases ok with
  | false =>
    have HQ : Hid (∀ W, Below w.heap.size w W → AnU w false (xbL x y) (.returned (.tuple #[.slice none 0 0, .int .i64 1])) W) := fun W hW => ⟨_, rfl, World.ownsRow_nil _ _ _ _, hW⟩
    go_enter Tryd.func11, Tryd.ntmps11
    go_wp2_with fail
    have e0 := HX0.out
    subst e0
    refine HAB.out.mono ?_
    rintro e w1 ⟨rfl, hb⟩
    have NB : Hid (Below w.heap.size w w1) := HBa.out.trans (hb.mono HBa.out.size)
    clear hb HBa HAB
    go_wp2
    exact bodyPost_ret (v := .tuple #[.slice none 0 0, .int .i64 1]) (by simp [results, Tryd.results11, go_sem]) rfl (HQ.out _ NB.out)
  | true =>
    have lx : x.length = 1024 := by simp at hok; omega
    have ly : y.length = 1024 := by simp at hok; omega
    rw [lx, ly] at HX0 ⊢
    clear hok
    go_enter Tryd.func11, Tryd.ntmps11
    go_wp2_with fail
    have e0 := HX0.out
    subst e0
    refine HAB.out.mono ?_
    rintro e w1 ⟨rfl, hb⟩
    have NB1 : Hid (Below w.heap.size w w1) := HBa.out.trans (hb.mono HBa.out.size)
    clear hb HBa HAB
    go_wp2_with fail
    refine (bof ax cx x w1 hx (HRx.out w1 NB1.out) lx).mono ?_
    rintro e w2 ⟨rfl, hb⟩
    have NB2 : Hid (Below w.heap.size w w2) := NB1.out.trans (hb.mono NB1.out.size)
    clear hb NB1
    go_wp2_with fail
    refine (bof ay cy y w2 hy (HRy.out w2 NB2.out) ly).mono ?_
    rintro e w3 ⟨rfl, hb⟩
    have NB3 : Hid (Below w.heap.size w w3) := NB2.out.trans (hb.mono NB2.out.size)
    clear hb NB2
    go_wp2_with fail
    refine (bover (wdL x) (wdL y) w3 (wdL_length _) (wdL_length _)).mono ?_
    rintro e w4 ⟨rfl, hb⟩
    have NB4 : Hid (Below w.heap.size w w4) := NB3.out.trans (hb.mono NB3.out.size)
    clear hb NB3
    go_wp2_with fail
    refine (bbytes (ovL (wdL x) (wdL y)) w4 (ovL_length _ _) (ovL_Ws _ _)).mono ?_
    rintro e w5 ⟨v, rfl, ho, hb⟩
    have NB5 : Hid (Below w.heap.size w w5) := NB4.out.trans (hb.mono NB4.out.size)
    have HO : Hid (w5.ownsRow w.heap.size 5 1 v 1024 (vs (xbL x y))) := by
      have h := own_low ho NB4.out.size
      rw [by_ov hx hy lx ly] at h
      exact h
    clear hb NB4 ho
    have HQ : AnU w true (xbL x y) (.returned (.tuple #[v, .int .i64 0])) w5 := ⟨v, rfl, HO.out, NB5.out⟩
    go_wp2_with fail
    exact bodyPost_ret (v := .tuple #[v, .int .i64 0]) (by simp [results, Tryd.results11, go_sem]) rfl HQ
set_option maxHeartbeats 4000000 in
theorem bmix (ax : Option Addr) (cx : Nat) (x : List Int) (ay : Option Addr) (cy : Nat) (y : List Int) (w : World) (hx : Byt x) (rx : Row w ax x) (hy : Byt y) (ry : Row w ay y) (hp : Tab w 0 .u8 plL) :
    Calls Tryd.prog 14 #[.slice ax x.length cx, .slice ay y.length cy] w (AnU w (decide (x.length = 1024) && decide (y.length = 1024)) (mbL x y)) := by
  have HT : Hid (∀ X, Below w.heap.size w X → Tab X 0 .u8 plL) := fun X hX => hp.below hX
  have HRx : Hid (∀ X, Below w.heap.size w X → Row X ax x) := fun X hX => rx.below hX
  have HRy : Hid (∀ X, Below w.heap.size w X → Row X ay y) := fun X hX => ry.below hX
  have HAB := TW.hide (ablk [(ax, x.length, cx), (ay, y.length, cy)] w.heap.size 2 (w.alloc (.cells #[.slice ax x.length cx, .slice ay y.length cy] 31)) (fun j hj => by
    have h1 := heap_alloc_new w (.cells #[.slice ax x.length cx, .slice ay y.length cy] 31)
    have : j = 0 ∨ j = 1 := by simp at hj; omega
    rcases this with rfl | rfl <;> exact blk_cell h1 rfl) (by simp))
  have HBa : Hid (Below w.heap.size w (w.alloc (.cells #[.slice ax x.length cx, .slice ay y.length cy] 31))) := (Below.refl _ _).alloc (Nat.le_refl _) _
  have hall : ([(ax, x.length, cx), (ay, y.length, cy)].all (fun l => decide (l.2.1 = 1024))) = (decide (x.length = 1024) && decide (y.length = 1024)) := by simp [Bool.and_assoc]
  rw [hall] at HAB
  generalize hok : (decide (x.length = 1024) && decide (y.length = 1024)) = ok at *
  clear hall hp rx ry
  generalize hX0 : w.alloc (.cells #[.slice ax x.length cx, .slice ay y.length cy] 31) = X0 at *
  have HX0 := TW.hide hX0
  clear hX0
  cases ok with
  | false =>
    have HQ : Hid (∀ W, Below w.heap.size w W → AnU w false (mbL x y) (.returned (.tuple #[.slice none 0 0, .int .i64 1])) W) := fun W hW => ⟨_, rfl, World.ownsRow_nil _ _ _ _, hW⟩
    go_enter Tryd.func14, Tryd.ntmps14
    go_wp2_with fail
    have e0 := HX0.out
    subst e0
    refine HAB.out.mono ?_
    rintro e w1 ⟨rfl, hb⟩
    have NB : Hid (Below w.heap.size w w1) := HBa.out.trans (hb.mono HBa.out.size)
    clear hb HBa HAB
    go_wp2
    exact bodyPost_ret (v := .tuple #[.slice none 0 0, .int .i64 1]) (by simp [results, Tryd.results14, go_sem]) rfl (HQ.out _ NB.out)
  | true =>
    have lx : x.length = 1024 := by simp at hok; omega
    have ly : y.length = 1024 := by simp at hok; omega
    rw [lx, ly] at HX0 ⊢
    clear hok
    go_enter Tryd.func14, Tryd.ntmps14
    go_wp2_with fail
    have e0 := HX0.out
    subst e0
    refine HAB.out.mono ?_
    rintro e w1 ⟨rfl, hb⟩
    have NB1 : Hid (Below w.heap.size w w1) := HBa.out.trans (hb.mono HBa.out.size)
    clear hb HBa HAB
    go_wp2_with fail
    refine (bof ax cx x w1 hx (HRx.out w1 NB1.out) lx).mono ?_
    rintro e w2 ⟨rfl, hb⟩
    have NB2 : Hid (Below w.heap.size w w2) := NB1.out.trans (hb.mono NB1.out.size)
    clear hb NB1
    go_wp2_with fail
    refine (bof ay cy y w2 hy (HRy.out w2 NB2.out) ly).mono ?_
    rintro e w3 ⟨rfl, hb⟩
    have NB3 : Hid (Below w.heap.size w w3) := NB2.out.trans (hb.mono NB2.out.size)
    clear hb NB2
    go_wp2_with fail
    refine (bover (wdL x) (wdL y) w3 (wdL_length _) (wdL_length _)).mono ?_
    rintro e w4 ⟨rfl, hb⟩
    have NB4 : Hid (Below w.heap.size w w4) := NB3.out.trans (hb.mono NB3.out.size)
    clear hb NB3
    go_wp2_with fail
    refine (bmixed (ovL (wdL x) (wdL y)) w4 (ovL_length _ _) (ovL_Ws _ _) (HT.out w4 NB4.out)).mono ?_
    rintro e w5 ⟨rfl, hb⟩
    have NB5 : Hid (Below w.heap.size w w5) := NB4.out.trans (hb.mono NB4.out.size)
    clear hb NB4
    go_wp2_with fail
    refine (bbytes (mxL (ovL (wdL x) (wdL y))) w5 (mxL_length _) (mxL_Ws _)).mono ?_
    rintro e w6 ⟨v, rfl, ho, hb⟩
    have NB6 : Hid (Below w.heap.size w w6) := NB5.out.trans (hb.mono NB5.out.size)
    have HO : Hid (w6.ownsRow w.heap.size 5 1 v 1024 (vs (mbL x y))) := by
      have h := own_low ho NB5.out.size
      rw [mix_by hx hy lx ly] at h
      exact h
    clear hb NB5 ho
    have HQ : AnU w true (mbL x y) (.returned (.tuple #[v, .int .i64 0])) w6 := ⟨v, rfl, HO.out, NB6.out⟩
    go_wp2_with fail
    exact bodyPost_ret (v := .tuple #[v, .int .i64 0]) (by simp [results, Tryd.results14, go_sem]) rfl HQ
set_option maxHeartbeats 4000000 in
theorem bovr (ax : Option Addr) (cx : Nat) (x : List Int) (ay : Option Addr) (cy : Nat) (y : List Int) (ad : Option Addr) (cd : Nat) (d : List Int) (w : World) (hx : Byt x) (rx : Row w ax x) (hy : Byt y) (ry : Row w ay y) (hd : Byt d) (rd : Row w ad d) (hp : Tab w 0 .u8 plL) :
    Calls Tryd.prog 16 #[.slice ax x.length cx, .slice ay y.length cy, .slice ad d.length cd] w (AnU w (decide (x.length = 1024) && decide (y.length = 1024) && decide (d.length = 1024)) (xbL (mbL x y) d)) := by
  have HT : Hid (∀ X, Below w.heap.size w X → Tab X 0 .u8 plL) := fun X hX => hp.below hX
  have HRx : Hid (∀ X, Below w.heap.size w X → Row X ax x) := fun X hX => rx.below hX
  have HRy : Hid (∀ X, Below w.heap.size w X → Row X ay y) := fun X hX => ry.below hX
  have HRd : Hid (∀ X, Below w.heap.size w X → Row X ad d) := fun X hX => rd.below hX
  have HAB := TW.hide (ablk [(ax, x.length, cx), (ay, y.length, cy), (ad, d.length, cd)] w.heap.size 3 (w.alloc (.cells #[.slice ax x.length cx, .slice ay y.length cy, .slice ad d.length cd] 31)) (fun j hj => by
    have h1 := heap_alloc_new w (.cells #[.slice ax x.length cx, .slice ay y.length cy, .slice ad d.length cd] 31)
    have : j = 0 ∨ j = 1 ∨ j = 2 := by simp at hj; omega
    rcases this with rfl | rfl | rfl <;> exact blk_cell h1 rfl) (by simp))
  have HBa : Hid (Below w.heap.size w (w.alloc (.cells #[.slice ax x.length cx, .slice ay y.length cy, .slice ad d.length cd] 31))) := (Below.refl _ _).alloc (Nat.le_refl _) _
  have hall : ([(ax, x.length, cx), (ay, y.length, cy), (ad, d.length, cd)].all (fun l => decide (l.2.1 = 1024))) = (decide (x.length = 1024) && decide (y.length = 1024) && decide (d.length = 1024)) := by simp [Bool.and_assoc]
  rw [hall] at HAB
  generalize hok : (decide (x.length = 1024) && decide (y.length = 1024) && decide (d.length = 1024)) = ok at *
  clear hall hp rx ry rd
  generalize hX0 : w.alloc (.cells #[.slice ax x.length cx, .slice ay y.length cy, .slice ad d.length cd] 31) = X0 at *
  have HX0 := TW.hide hX0
  clear hX0
  cases ok with
  | false =>
    have HQ : Hid (∀ W, Below w.heap.size w W → AnU w false (xbL (mbL x y) d) (.returned (.tuple #[.slice none 0 0, .int .i64 1])) W) := fun W hW => ⟨_, rfl, World.ownsRow_nil _ _ _ _, hW⟩
    go_enter Tryd.func16, Tryd.ntmps16
    go_wp2_with fail
    have e0 := HX0.out
    subst e0
    refine HAB.out.mono ?_
    rintro e w1 ⟨rfl, hb⟩
    have NB : Hid (Below w.heap.size w w1) := HBa.out.trans (hb.mono HBa.out.size)
    clear hb HBa HAB
    go_wp2
    exact bodyPost_ret (v := .tuple #[.slice none 0 0, .int .i64 1]) (by simp [results, Tryd.results16, go_sem]) rfl (HQ.out _ NB.out)
  | true =>
    have lx : x.length = 1024 := by simp at hok; omega
    have ly : y.length = 1024 := by simp at hok; omega
    have ld : d.length = 1024 := by simp at hok; omega
    rw [lx, ly, ld] at HX0 ⊢
    clear hok
    go_enter Tryd.func16, Tryd.ntmps16
    go_wp2_with fail
    have e0 := HX0.out
    subst e0
    refine HAB.out.mono ?_
    rintro e w1 ⟨rfl, hb⟩
    have NB1 : Hid (Below w.heap.size w w1) := HBa.out.trans (hb.mono HBa.out.size)
    clear hb HBa HAB
    go_wp2_with fail
    refine (bof ax cx x w1 hx (HRx.out w1 NB1.out) lx).mono ?_
    rintro e w2 ⟨rfl, hb⟩
    have NB2 : Hid (Below w.heap.size w w2) := NB1.out.trans (hb.mono NB1.out.size)
    clear hb NB1
    go_wp2_with fail
    refine (bof ay cy y w2 hy (HRy.out w2 NB2.out) ly).mono ?_
    rintro e w3 ⟨rfl, hb⟩
    have NB3 : Hid (Below w.heap.size w w3) := NB2.out.trans (hb.mono NB2.out.size)
    clear hb NB2
    go_wp2_with fail
    refine (bover (wdL x) (wdL y) w3 (wdL_length _) (wdL_length _)).mono ?_
    rintro e w4 ⟨rfl, hb⟩
    have NB4 : Hid (Below w.heap.size w w4) := NB3.out.trans (hb.mono NB3.out.size)
    clear hb NB3
    go_wp2_with fail
    refine (bmixed (ovL (wdL x) (wdL y)) w4 (ovL_length _ _) (ovL_Ws _ _) (HT.out w4 NB4.out)).mono ?_
    rintro e w5 ⟨rfl, hb⟩
    have NB5 : Hid (Below w.heap.size w w5) := NB4.out.trans (hb.mono NB4.out.size)
    clear hb NB4
    go_wp2_with fail
    refine (bof ad cd d w5 hd (HRd.out w5 NB5.out) ld).mono ?_
    rintro e w6 ⟨rfl, hb⟩
    have NB6 : Hid (Below w.heap.size w w6) := NB5.out.trans (hb.mono NB5.out.size)
    clear hb NB5
    go_wp2_with fail
    refine (bover (mxL (ovL (wdL x) (wdL y))) (wdL d) w6 (mxL_length _) (wdL_length _)).mono ?_
    rintro e w7 ⟨rfl, hb⟩
    have NB7 : Hid (Below w.heap.size w w7) := NB6.out.trans (hb.mono NB6.out.size)
    clear hb NB6
    go_wp2_with fail
    refine (bbytes (ovL (mxL (ovL (wdL x) (wdL y))) (wdL d)) w7 (ovL_length _ _) (ovL_Ws _ _)).mono ?_
    rintro e w8 ⟨v, rfl, ho, hb⟩
    have NB8 : Hid (Below w.heap.size w w8) := NB7.out.trans (hb.mono NB7.out.size)
    have HO : Hid (w8.ownsRow w.heap.size 5 1 v 1024 (vs (xbL (mbL x y) d))) := by
      have h := own_low ho NB7.out.size
      rw [over_by (mxL_Ws _) (mxL_length _) hd ld, mix_by hx hy lx ly] at h
      exact h
    clear hb NB7 ho
    have HQ : AnU w true (xbL (mbL x y) d) (.returned (.tuple #[v, .int .i64 0])) w8 := ⟨v, rfl, HO.out, NB8.out⟩
    go_wp2_with fail
    exact bodyPost_ret (v := .tuple #[v, .int .i64 0]) (by simp [results, Tryd.results16, go_sem]) rfl HQ
end LW
end Go.Proofs.YtkgemkfajkcgcaaDoor
