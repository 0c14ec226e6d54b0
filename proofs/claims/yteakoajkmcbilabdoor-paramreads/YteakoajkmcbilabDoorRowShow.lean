/-
  What a row's show gives: a field's value as it stands in a line.
-/
import Derived.Test.YteakoajkmcbilabDoorFmt
import Derived.Test.YteakoajkmcbilabDoorHex
import Derived.Test.YteakoajkmcbilabDoorUnif
import Derived.Test.YteakoajkmcbilabDoorChecksWalk
namespace Go.Proofs.YteakoajkmcbilabDoor
open Go.RowKit
set_option linter.unusedVariables false
set_option linter.unusedSimpArgs false
namespace LW
open Words
/-- A field's value as it stands in a line. -/
def shV (p : Pm) (s t : List Int) (fd : Int) : List Int := if fd = 10 then hx s else if fd = 11 then hx t else dcs (p.nv fd).toNat
/-- A row of the table of fields. -/
def rwC (fd : Int) (nm : ByteArray) (y2 y3 y4 y5 y6 : Int) : Array Value := #[.int .i64 fd, .string nm, .int .i64 y2, .int .i64 y3, .int .i64 y4, .int .i64 y5, .int .i64 y6]
theorem blk_keepS {w w' : World} {b : Nat} {o : Obj} (h : w.heap[b]? = some o) (hb : Below w.heap.size w w') : w'.heap[b]? = some o := by
  rw [hb.block b (Array.getElem?_eq_some_iff.1 h).1]; exact h
theorem nv_bd (p : Pm) (hp : p.Ok) (hm : p.May) (fd : Int) (h1 : 1 ≤ fd) (h9 : fd ≤ 9) : 0 ≤ p.nv fd ∧ p.nv fd < 18446744073709551616 := by
  obtain ⟨o0, o1, x0, x1, l0, l1⟩ := hp
  obtain ⟨d0, d1, k0, k1, f0, f1, e0, e1, n0, n1, i0, i1⟩ := hm
  have hf : fd = 1 ∨ fd = 2 ∨ fd = 3 ∨ fd = 4 ∨ fd = 5 ∨ fd = 6 ∨ fd = 7 ∨ fd = 8 ∨ fd = 9 := by omega
  rcases hf with rfl | rfl | rfl | rfl | rfl | rfl | rfl | rfl | rfl <;> simp [Pm.nv, nv] <;> omega
set_option maxRecDepth 100000 in
set_option maxHeartbeats 1600000 in
theorem rowShow (fd : Int) (nm : ByteArray) (y2 y3 y4 y5 y6 : Int) (p : Pm) (hp : p.Ok) (hm : p.May) (sa ta : Option Addr) (sc tc : Nat) (s t : List Int) (w : World) (hs : Pb w sa sc s) (ht : Pb w ta tc t) (ls : s.length ≤ 64) (lt : t.length ≤ 64) (f1 : 1 ≤ fd) (f2 : fd ≤ 11)
    (htab : ∀ W, Below w.heap.size w W → Lib.TabIs Tryd.prog W "internal/strconv.uint64pow10" .u64 Lib.pow10Tab) :
    Calls Tryd.prog 22 #[.agg (rwC fd nm y2 y3 y4 y5 y6), .agg (pcP p (.slice sa s.length sc) (.slice ta t.length tc))] w fun e w' => e = .returned (.string (strOfNums (shV p s t fd))) ∧ Below w.heap.size w w' := by
  have hxs := fun W (hb : Below w.heap.size w W) => hex sa sc s W hs.byt (hs.row.below hb) (by omega)
  have hxt := fun W (hb : Below w.heap.size w W) => hex ta tc t W ht.byt (ht.row.below hb) (by omega)
  have hnu := fun W (h9 : fd ≤ 9) => numberP p hp hm sa ta s.length t.length sc tc fd W f1 h9
  have hbd := fun (h9 : fd ≤ 9) => nv_bd p hp hm fd f1 h9
  have hfm := fun W (hb : Below w.heap.size w W) (h9 : fd ≤ 9) => fmtU (p.nv fd).toNat (by have := hbd h9; omega) W (htab W hb)
  have hvn : fd ≤ 9 → ((p.nv fd).toNat : Int) = p.nv fd := fun h9 => by have := hbd h9; omega
  have hb0 := ((Below.refl w.heap.size w).alloc (Nat.le_refl _) (.cells (rwC fd nm y2 y3 y4 y5 y6) 62)).alloc (by simp) (.cells (pcP p (.slice sa s.length sc) (.slice ta t.length tc)) 26)
  have n0 : ((w.alloc (.cells (rwC fd nm y2 y3 y4 y5 y6) 62)).alloc (.cells (pcP p (.slice sa s.length sc) (.slice ta t.length tc)) 26)).heap[w.heap.size]? = some (.cells (rwC fd nm y2 y3 y4 y5 y6) 62 (0, 0)) := by
    rw [Below.heap_alloc _ _ _ (by simp)]; exact heap_new w _
  have n1 : ((w.alloc (.cells (rwC fd nm y2 y3 y4 y5 y6) 62)).alloc (.cells (pcP p (.slice sa s.length sc) (.slice ta t.length tc)) 26)).heap[w.heap.size + 1]? = some (.cells (pcP p (.slice sa s.length sc) (.slice ta t.length tc)) 26 (0, 0)) := by
    have := heap_new (w.alloc (.cells (rwC fd nm y2 y3 y4 y5 y6) 62)) (.cells (pcP p (.slice sa s.length sc) (.slice ta t.length tc)) 26)
    rw [show (w.alloc (.cells (rwC fd nm y2 y3 y4 y5 y6) 62)).heap.size = w.heap.size + 1 by simp] at this
    exact this
  have HXS := TW.hide hxs
  have HXT := TW.hide hxt
  have HNU := TW.hide hnu
  have HFM := TW.hide hfm
  have HVN := TW.hide hvn
  clear hxs hxt hnu hfm hvn hbd htab hs ht
  generalize s.length = sl at *
  generalize t.length = tl at *
  go_enter Tryd.func22, Tryd.ntmps22
  refine wp_seq_k fun KK hK => ?_
  have HK := TW.hide hK
  clear hK
  go_wp2
  refine HK.out _ _ ?_
  clear HK KK
  change Code.wp _ _ _ _ ((w.alloc (.cells (rwC fd nm y2 y3 y4 y5 y6) 62)).alloc (.cells (pcP p (.slice sa sl sc) (.slice ta tl tc)) 26))
  generalize (w.alloc (.cells (rwC fd nm y2 y3 y4 y5 y6) 62)).alloc (.cells (pcP p (.slice sa sl sc) (.slice ta tl tc)) 26) = W at hb0 n0 n1 ⊢
  have c0 : W.cell? ⟨w.heap.size, 0, none⟩ = some (.int .i64 fd) := blk_cell (i := 0) n0 rfl
  have c9 : W.cell? ⟨w.heap.size + 1, 9, none⟩ = some (.slice sa sl sc) := blk_cell (i := 9) n1 rfl
  have c10 : W.cell? ⟨w.heap.size + 1, 10, none⟩ = some (.slice ta tl tc) := blk_cell (i := 10) n1 rfl
  have N0 := TW.hide n0
  have N1 := TW.hide n1
  have HB := TW.hide hb0
  clear n0 n1 hb0
  by_cases h10 : fd = 10
  · subst h10
    go_wp2_with fail
    refine (HXS.out _ HB.out).mono ?_
    rintro e w1 ⟨rfl, hb⟩
    have FF : Hid (Below w.heap.size w w1) := HB.out.trans (hb.mono HB.out.size)
    clear hb
    go_wp2
    go_ret
    exact ⟨rfl, FF.out⟩
  · by_cases h11 : fd = 11
    · subst h11
      go_wp2_with fail
      refine (HXT.out _ HB.out).mono ?_
      rintro e w1 ⟨rfl, hb⟩
      have FF : Hid (Below w.heap.size w w1) := HB.out.trans (hb.mono HB.out.size)
      clear hb
      go_wp2
      go_ret
      exact ⟨rfl, FF.out⟩
    · have hv : shV p s t fd = dcs (p.nv fd).toNat := by unfold shV; rw [if_neg h10, if_neg h11]
      have d10 : (fd == 10) = false := by simpa using h10
      have d11 : (fd == 11) = false := by simpa using h11
      have h9 : fd ≤ 9 := by omega
      rw [hv]
      have NU := TW.hide (HNU.out W h9)
      have VN := TW.hide (HVN.out h9)
      have FM := TW.hide (fun Y hb => HFM.out Y hb h9)
      clear hv HNU HFM HVN h9 h10 h11 f1 f2
      rw [← VN.out] at NU
      generalize (p.nv fd).toNat = u at *
      go_wp2_with (refine wpList_val (.agg (pcP p (.slice sa sl sc) (.slice ta tl tc))) (by rfl) (exec_load_row' 26 _ (by rfl) (w.heap.size + 1) (by rfl) 26 (pcP p (.slice sa sl sc) (.slice ta tl tc)) (0, 0) _ N1.out Tryd.underlying26 rfl (info31 _ _ _)) ?_)
      refine NU.out.mono ?_
      rintro e w1 ⟨rfl, hb⟩
      have F1 : Hid (Below w.heap.size w w1) := HB.out.trans (hb.mono HB.out.size)
      clear hb
      go_wp2_with fail
      refine (FM.out _ F1.out).mono ?_
      rintro e w2 ⟨rfl, hb⟩
      have FF : Hid (Below w.heap.size w w2) := F1.out.trans (hb.mono F1.out.size)
      clear hb
      go_wp2
      go_ret
      exact ⟨rfl, FF.out⟩
end LW
end Go.Proofs.YteakoajkmcbilabDoor
