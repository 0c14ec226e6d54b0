/-
  Numbers and pairs of digits in a line; readValue and readField of whatever word.
-/
import Derived.Test.YteakoajkmcbilabDoorRdA
namespace Go.Proofs.YteakoajkmcbilabDoor
open Go.RowKit Go.Shelf
set_option linter.unusedVariables false
set_option linter.unusedSimpArgs false
namespace LW
open Words Txt
/-- The number that digits tell as Show writes them. -/
def numV (v : List Int) : Option Nat := if v = dcs (dval v).toNat ∧ (dval v).toNat < 18446744073709551616 then some (dval v).toNat else none
theorem numV_dcs (u : Nat) (h : u < 18446744073709551616) : numV (dcs u) = some u := by
  have e : (dval (dcs u)).toNat = u := by rw [dval_dcs]; omega
  rw [numV, e, if_pos ⟨rfl, h⟩]
theorem numV_some {v : List Int} {u : Nat} (h : numV v = some u) : v = dcs u ∧ u < 18446744073709551616 := by
  unfold numV at h
  split at h
  · injection h with h; subst h; assumption
  · cases h
theorem numV_none {v : List Int} (h : numV v = none) (u : Nat) (hu : u < 18446744073709551616) : ¬ dcs u = v := fun e => by
  rw [← e, numV_dcs u hu] at h; cases h
/-- The bytes that pairs of digits tell as Show writes them. -/
def bytV (v : List Int) : Option (List Int) := if hexOk v = true ∧ hx (uh v) = v then some (uh v) else none
/-- What gives up. -/
abbrev flt (at_ why : Int) : List PanicEntry := [{ v := .iface 75 (.agg #[.int .i64 at_, .int .i64 why]), recovered := false }]
theorem ok_bound {l : List UInt8} {u : Nat} (h : Lib.parseUintB 64 l = .ok u) : u < 18446744073709551616 := by
  have key : ∀ (l : List UInt8) (acc : Nat), acc ≤ 2 ^ 64 - 1 → Lib.parseUintM (2 ^ 64 - 1) acc l = .ok u → u ≤ 2 ^ 64 - 1 := by
    intro l
    induction l with
    | nil => intro acc ha h; simp only [Lib.parseUintM] at h; injection h with h; omega
    | cons c r ih =>
      intro acc ha h
      simp only [Lib.parseUintM] at h
      split at h
      · split at h
        · cases h
        · split at h
          · cases h
          · exact ih _ (by omega) h
      · cases h
  unfold Lib.parseUintB at h
  split at h
  · cases h
  · have := key l 0 (by omega) h
    omega
set_option maxRecDepth 100000 in
theorem readNumNo (v : List Int) (at_ : Int) (w : World) (hv : Byt v) (hl : v.length ≤ 512) (hn : numV v = none) (es er : Value) (hs : ∀ W, Below w.heap.size w W → W.cell? ⟨6, 0, none⟩ = some es) (hr : ∀ W, Below w.heap.size w W → W.cell? ⟨7, 0, none⟩ = some er)
    (ks : es = .nilIface ∨ ∃ te pe, es = .iface te pe) (kr : er = .nilIface ∨ ∃ te pe, er = .iface te pe) (htab : ∀ W, Below w.heap.size w W → Tab10 W) :
    Calls Tryd.prog 81 #[.string (strOfNums v), .int .i64 at_] w fun e w' => e = .panicked (flt at_ 4) ∧ Below w.heap.size w w' := by
  have hsz : (strOfNums v).size ≤ 512 := by rw [strOf_size]; exact hl
  cases hp : Lib.parseUintB 64 (strOfNums v).data.toList with
  | ok u =>
    have hu := ok_bound hp
    have HP := TW.hide (Any.strconv_ParseUint_10_at64_ok (P := Tryd.prog) (ρ := laysPU_ren) laysPU (strOfNums v) (by omega) u hp w)
    have HF := TW.hide (fun W ht => fmtU u hu W ht)
    have hne : ((strOfNums (dcs u)).toList == (strOfNums v).toList) = false := strOf_eqF (dcs_byt u) hv (numV_none hn u hu)
    have hne2 : ((strOfNums (dcs u)).toList != (strOfNums v).toList) = true := by simp only [bne, hne]; rfl
    have HT := TW.hide htab
    clear hn hv hl hsz hp htab hs hr
    generalize strOfNums (dcs u) = d at *
    generalize strOfNums v = s at *
    go_enter Tryd.func81, Tryd.ntmps81
    go_wp2_with fail
    refine HP.out.mono ?_
    rintro e w1 ⟨rfl, hw⟩
    have B1 : Hid (Below w.heap.size w w1) := by
      rcases hw with rfl | rfl
      · exact Below.refl _ _
      · exact Lib.bytesWorld_below _ _ _
    clear hw
    go_wp2_with fail
    refine (HF.out _ (HT.out _ B1.out)).mono ?_
    rintro e w2 ⟨rfl, hb⟩
    have B2 : Hid (Below w.heap.size w w2) := below_row B1.out hb B1.out.size
    clear hb
    go_wp2_with fail
    exact ⟨rfl, rfl, B2.out⟩
  | range =>
    have HP := TW.hide (Any.strconv_ParseUint_10_at64_range (P := Tryd.prog) (ρ := laysPU_ren) laysPU (strOfNums v) (by omega) hp er w (hr _ (Below.refl _ _)) kr)
    clear hn hv hl hsz hp htab hs hr ks kr
    generalize strOfNums v = s at *
    go_enter Tryd.func81, Tryd.ntmps81
    go_wp2_with fail
    refine HP.out.mono ?_
    rintro e w1 ⟨N, rfl, _, _, hb⟩
    have B1 := TW.hide hb
    clear hb
    go_wp2_with fail
    exact ⟨rfl, rfl, B1.out⟩
  | _ =>
    have HP := TW.hide (Any.strconv_ParseUint_10_at64_syntax (P := Tryd.prog) (ρ := laysPU_ren) laysPU (strOfNums v) (by omega) hp es w (hs _ (Below.refl _ _)) ks)
    clear hn hv hl hsz hp htab hs hr ks kr
    generalize strOfNums v = s at *
    go_enter Tryd.func81, Tryd.ntmps81
    go_wp2_with fail
    refine HP.out.mono ?_
    rintro e w1 ⟨N, rfl, _, _, hb⟩
    have B1 := TW.hide hb
    clear hb
    go_wp2_with fail
    exact ⟨rfl, rfl, B1.out⟩
theorem bytV_hx {b : List Int} (h : Byt b) : bytV (hx b) = some b := by
  rw [bytV, if_pos ⟨hexOk_hx h, by rw [uh_hx h]⟩, uh_hx h]
theorem hw_byte (c d : Int) (hc : 0 ≤ c ∧ c < 256) (hd : 0 ≤ d ∧ d < 256) (h1 : hw c ≠ -1) (h2 : hw d ≠ -1) : 0 ≤ 16 * hw c + hw d ∧ 16 * hw c + hw d < 256 := by
  have a := hw_bd c
  have b := hw_bd d
  omega
theorem uh_byt : ∀ (l : List Int), Byt l → (∀ x ∈ l, hw x ≠ -1) → Byt (uh l)
  | [], _, _ => Byt.nil
  | [a], _, _ => Byt.nil
  | a :: b :: l, hb, hg => by
    obtain ⟨ha, hb'⟩ := hb.cons
    obtain ⟨hb1, hl⟩ := hb'.cons
    have := hw_byte a b ha hb1 (hg a (by simp)) (hg b (by simp))
    exact Byt.mk this.1 this.2 (uh_byt l hl (fun x hx => hg x (by simp [hx])))
theorem all_bad (g : Int → Int) (l : List Int) (h : bad g l = l.length) : ∀ x ∈ l, g x ≠ -1 := by
  intro x hx
  obtain ⟨i, hi, rfl⟩ := List.getElem_of_mem hx
  have := bad_before g l i (by omega)
  rwa [List.getD_eq_getElem?_getD, List.getElem?_eq_getElem hi] at this
theorem bytV_some {v b : List Int} (hv : Byt v) (h : bytV v = some b) : v = hx b ∧ Byt b := by
  unfold bytV at h
  split at h
  · rename_i hh
    injection h with h
    subst h
    refine ⟨hh.2.symm, uh_byt v hv (all_bad hw v ?_)⟩
    have := hh.1
    unfold hexOk at this
    exact (of_decide_eq_true this).1
  · cases h
set_option maxRecDepth 100000 in
theorem readBytNo (v : List Int) (at_ : Int) (w : World) (hv : Byt v) (hl : v.length ≤ 512) (hn : bytV v = none) :
    Calls Tryd.prog 80 #[.string (strOfNums v), .int .i64 at_] w fun e w' => e = .panicked (flt at_ 4) ∧ Below w.heap.size w w' := by
  have hsz : (strOfNums v).size ≤ 8388608 := by rw [strOf_size]; omega
  have HU := unhex (strOfNums v) w hsz
  rw [sb_str v hv] at HU
  by_cases hok : hexOk v = true
  · have e1 : hexB v = uh v := by simp [hexB, hok]
    have e2 : hexAt v = 0 := by simp [hexAt, hok]
    have e3 : hexE v = 0 := by simp [hexE, hok]
    rw [e1, e2, e3] at HU
    have hgood : Byt (uh v) := uh_byt v hv (all_bad hw v (by unfold hexOk at hok; exact (of_decide_eq_true hok).1))
    have hlen : (uh v).length ≤ 512 := by rw [uh_length]; omega
    have hne0 : ¬ hx (uh v) = v := fun e => by rw [bytV, if_pos ⟨hok, e⟩] at hn; cases hn
    have hne : ((strOfNums (hx (uh v))).toList == (strOfNums v).toList) = false := strOf_eqF (hx_byt hgood) hv hne0
    have hne2 : ((strOfNums (hx (uh v))).toList != (strOfNums v).toList) = true := by simp only [bne, hne]; rfl
    have HH := TW.hide (fun a cap W (hr : Row W a (uh v)) => hex a cap (uh v) W hgood hr (by omega))
    have HUU := TW.hide HU
    have HBY := TW.hide hgood
    have HLE := TW.hide hlen
    clear HU hok e1 e2 e3 hn hne0 hv hl hsz hgood hlen
    generalize strOfNums (hx (uh v)) = d at *
    generalize strOfNums v = s at *
    generalize uh v = b at *
    go_enter Tryd.func80, Tryd.ntmps80
    go_wp2_with fail
    refine HUU.out.mono ?_
    rintro e w1 ⟨v', rfl, ho, hb⟩
    obtain ⟨a, cap, rfl, hp⟩ := Pn.own ho (by have := HLE.out; omega) HBY.out
    have HO := TW.hide hp
    have B1 := TW.hide hb
    clear hb ho hp
    generalize hnn : b.length = n at *
    go_wp2_with fail
    refine (HH.out _ _ _ HO.out.row).mono ?_
    rintro e w2 ⟨rfl, hb⟩
    have B2 : Hid (Below w.heap.size w w2) := below_row B1.out hb B1.out.size
    clear hb
    go_wp2_with fail
    exact ⟨rfl, rfl, B2.out⟩
  · have hokf : hexOk v = false := by simpa using hok
    have e3 : hexE v = 4 := by simp [hexE, hokf]
    rw [e3] at HU
    have HUU := TW.hide HU
    clear HU hok hokf e3 hn hv hl hsz
    generalize strOfNums v = s at *
    go_enter Tryd.func80, Tryd.ntmps80
    go_wp2_with fail
    refine HUU.out.mono ?_
    rintro e w1 ⟨v', rfl, ho, hb⟩
    have B1 := TW.hide hb
    clear hb ho
    go_wp2_with fail
    exact ⟨rfl, rfl, B1.out⟩
theorem readKNo (l : List Int) (hl : Byt l) (h1 : ¬ l = knL 1) (h2 : ¬ l = knL 2) (w : World) :
    Calls Tryd.prog 63 #[.string (strOfNums l)] w fun e w' => e = .panicked (flt 0 4) ∧ w = w' := by
  have e1 : strOfNums (knL 1) = { data := #[50, 98] } := by rfl
  have e2 : strOfNums (knL 2) = { data := #[50, 115] } := by rfl
  have n1 := strOf_eqF hl (knL_byt 1) h1
  have n2 := strOf_eqF hl (knL_byt 2) h2
  have q1 : ({ data := #[50, 98] } : ByteArray).toList = [50, 98] := by rw [ByteArray.toList_eq]
  have q2 : ({ data := #[50, 115] } : ByteArray).toList = [50, 115] := by rw [ByteArray.toList_eq]
  rw [e1, q1] at n1
  rw [e2, q2] at n2
  clear e1 e2 q1 q2 h1 h2 hl
  generalize strOfNums l = s at *
  go_enter Tryd.func63, Tryd.ntmps63
  go_wp2
  exact ⟨rfl, rfl, rfl⟩
end LW
end Go.Proofs.YteakoajkmcbilabDoor
namespace Go.Proofs.YteakoajkmcbilabDoor
open Go.RowKit Go.Shelf
set_option linter.unusedVariables false
set_option linter.unusedSimpArgs false
namespace LW
open Words Txt
/-- What a field takes of a number. -/
def svV (fd n : Int) : Int := if fd = 5 ∨ fd = 7 then n % 4294967296 else if fd = 6 then n else min n 2147483647
set_option maxHeartbeats 4000000 in
/-- setNumber of whatever number, where the parameters are a struct's second field. -/
theorem setNumA (b : Nat) (fd n : Int) (w : World) (hc : ∀ i : Nat, i < 26 → ∃ v, w.cell? ⟨b, i, none⟩ = some v) (hz : ∀ i : Nat, w.frozen? ⟨b, i, none⟩ = false) (h1 : 1 ≤ fd) (h9 : fd ≤ 9) (n0 : 0 ≤ n) (n3 : n < 18446744073709551616) :
    Calls Tryd.prog 51 #[.pointer (some ⟨b, 1, none⟩), .int .i64 fd, .int .u64 n] w fun e w' => e = .returned (.tuple #[]) ∧ w' = w.setCell ⟨b, fd.toNat, none⟩ (nk fd (svV fd n)) := by
  have hf : fd = 1 ∨ fd = 2 ∨ fd = 3 ∨ fd = 4 ∨ fd = 5 ∨ fd = 6 ∨ fd = 7 ∨ fd = 8 ∨ fd = 9 := by omega
  obtain ⟨v1, c1⟩ := hc 1 (by omega)
  obtain ⟨v2, c2⟩ := hc 2 (by omega)
  obtain ⟨v3, c3⟩ := hc 3 (by omega)
  obtain ⟨v4, c4⟩ := hc 4 (by omega)
  obtain ⟨v5, c5⟩ := hc 5 (by omega)
  obtain ⟨v6, c6⟩ := hc 6 (by omega)
  obtain ⟨v7, c7⟩ := hc 7 (by omega)
  obtain ⟨v8, c8⟩ := hc 8 (by omega)
  obtain ⟨v9, c9⟩ := hc 9 (by omega)
  clear hc
  have f1 := hz 1
  have f2 := hz 2
  have f3 := hz 3
  have f4 := hz 4
  have f5 := hz 5
  have f6 := hz 6
  have f7 := hz 7
  have f8 := hz 8
  have f9 := hz 9
  clear hz
  have hw : IntKind.u32.wrap n = n % 4294967296 := by rw [IntKind.wrap_u32]
  have hm : n ≤ 2147483647 ∨ (¬ n ≤ 2147483647 ∧ 2147483647 < n) := by omega
  clear h1 h9
  rcases hm with hm | ⟨hm, hm'⟩
  · have hmn : min n 2147483647 = n := Int.min_eq_left hm
    rcases hf with rfl | rfl | rfl | rfl | rfl | rfl | rfl | rfl | rfl
    all_goals
      go_enter Tryd.func51, Tryd.ntmps51
      go_wp2
      go_end0
      first | exact ⟨rfl, rfl⟩ | exact ⟨rfl, by simp [svV, nk, hmn]⟩ | exact ⟨rfl, by simp [svV, nk, Int.min_eq_left hm]⟩
  · have hmn : min n 2147483647 = 2147483647 := Int.min_eq_right (by omega)
    rcases hf with rfl | rfl | rfl | rfl | rfl | rfl | rfl | rfl | rfl
    all_goals
      go_enter Tryd.func51, Tryd.ntmps51
      go_wp2
      go_end0
      first | exact ⟨rfl, rfl⟩ | exact ⟨rfl, by simp [svV, nk, hmn]⟩
end LW
end Go.Proofs.YteakoajkmcbilabDoor
namespace Go.Proofs.YteakoajkmcbilabDoor
open Go.RowKit Go.Shelf
set_option linter.unusedVariables false
set_option linter.unusedSimpArgs false
namespace LW
open Words Txt
/-- Of what there was all but block 'g' is as it was. -/
structure But (w w' : World) (g : Nat) : Prop where
  os : w'.os = w.os
  tape : w'.tape = w.tape
  output : w'.output = w.output
  size : w.heap.size ≤ w'.heap.size
  block : ∀ k, k < w.heap.size → k ≠ g → w'.heap[k]? = w.heap[k]?
theorem But.of {w w' : World} {g : Nat} (h : Below w.heap.size w w') : But w w' g := ⟨h.os, h.tape, h.output, h.size, fun k hk _ => h.block k hk⟩
theorem But.refl (w : World) (g : Nat) : But w w g := ⟨rfl, rfl, rfl, Nat.le_refl _, fun _ _ _ => rfl⟩
theorem But.trans {w w' w'' : World} {g : Nat} (h : But w w' g) (h' : But w' w'' g) : But w w'' g :=
  ⟨h'.os.trans h.os, h'.tape.trans h.tape, h'.output.trans h.output, Nat.le_trans h.size h'.size, fun k hk hg => (h'.block k (Nat.lt_of_lt_of_le hk h.size) hg).trans (h.block k hk hg)⟩
theorem But.drew {w w' : World} {g : Nat} (h : But w w' g) : But w w'.drew g := ⟨h.os, h.tape, h.output, h.size, h.block⟩
theorem But.set {w w' : World} {g : Nat} (h : But w w' g) (i : Nat) (u : Value) : But w (w'.setCell ⟨g, i, none⟩ u) g := by
  have hb : Below g w' (w'.setCell ⟨g, i, none⟩ u) := (Below.refl g w').setCell (Nat.le_refl _) _
  exact ⟨hb.os.trans h.os, hb.tape.trans h.tape, hb.output.trans h.output, Nat.le_trans h.size hb.size, fun k hk hg => (heap_setCell_other _ _ _ _ hg).trans (h.block k hk hg)⟩
theorem But.below {w w' : World} {g B : Nat} (h : But w w' g) (hB : B ≤ w.heap.size) (hg : B ≤ g) : Below B w w' := ⟨h.os, h.tape, h.output, h.size, fun k hk => h.block k (by omega) (by omega)⟩
theorem But.blk {w w' : World} {g b : Nat} {o : Obj} (h : But w w' g) (hb : w.heap[b]? = some o) (hne : b ≠ g) : w'.heap[b]? = some o := by rw [h.block b (blk_lt hb) hne]; exact hb
theorem Pn.but {w w' : World} {g : Nat} {a : Option Addr} {c : Nat} {s : List Int} (h : Pn w (g + 1) a c s) (hb : But w w' g) : Pn w' (g + 1) a c s := by
  refine ⟨⟨?_, h.nil, h.len, h.cap, h.byt⟩, h.far⟩
  rcases h.row with h0 | ⟨b, off, rfl, hc⟩
  · exact .inl h0
  · refine .inr ⟨b, off, rfl, fun j hj => ?_⟩
    have hf := h.far _ rfl
    have := hc j hj
    have hl := lt_of_cell this
    have e : w'.heap[b]? = w.heap[b]? := hb.block b hl (by simp only at hf; omega)
    unfold World.cell? at this ⊢
    simp only [e]
    exact this
/-- Is a number past four bytes where there are no more, the first one? -/
def wideB (f : Int) (u : Nat) (ww : Int) : Bool := (f == 5 || f == 7) && decide (4294967295 < u) && ww == 0
/-- The line behind a number. -/
def vnC (cs : Array Value) (f : Int) (u : Nat) (ww at_ er : Int) : Array Value := (if wideB f u ww = true then (cs.setIfInBounds 24 (.int .i64 at_)).setIfInBounds 25 (.int .i64 er) else cs).setIfInBounds f.toNat (nk f (svV f u))
set_option maxRecDepth 100000 in
set_option maxHeartbeats 8000000 in
theorem readVA (g : Nat) (cs : Array Value) (f : Int) (u : Nat) (at_ er ww : Int) (x1 x3 x4 x5 x6 : Value) (w : World) (hL : Lc w g cs) (hw : cs[25]? = some (.int .i64 ww)) (h1 : 1 ≤ f) (h9 : f ≤ 9)
    (n3 : u < 18446744073709551616) (htab : ∀ W, Below w.heap.size w W → Tab10 W) :
    Calls Tryd.prog 71 #[.pointer (some ⟨g, 0, none⟩), .agg #[.int .i64 f, x1, .int .i64 er, x3, x4, x5, x6], .string (strOfNums (dcs u)), .int .i64 at_] w fun e w' => e = .returned (.tuple #[]) ∧ Lc w' g (vnC cs f u ww at_ er) ∧ But w w' g := by
  have HN := TW.hide (fun W ht => readNum u at_ W n3 ht)
  have HS : Hid (∀ (W : World) (cs' : Array Value), Lc W g cs' → Calls Tryd.prog 51 #[.pointer (some ⟨g, 1, none⟩), .int .i64 f, .int .u64 u] W fun e w' => e = .returned (.tuple #[]) ∧ w' = W.setCell ⟨g, f.toNat, none⟩ (nk f (svV f u))) := fun W cs' hW =>
    setNumA g f u W (fun i hi => hW.has i hi) (fun i => hW.free i) h1 h9 (by omega) (by omega)
  have HT := TW.hide htab
  have b0 := (Below.refl w.heap.size w).alloc (Nat.le_refl _) (.cells #[.int .i64 f, x1, .int .i64 er, x3, x4, x5, x6] 62)
  have r0 := heap_alloc_new w (.cells #[.int .i64 f, x1, .int .i64 er, x3, x4, x5, x6] 62)
  have l0 := hL.below b0
  have e10 : (f == 10) = false := by simp; omega
  have e11 : (f == 11) = false := by simp; omega
  have hgl := hL.lt
  clear htab h1 h9 hL
  have EV : Hid (∀ a b c d : Bool, (f == 5) = a → (f == 7) = b → decide (4294967295 < u) = c → (ww == 0) = d → vnC cs f u ww at_ er = (if ((a || b) && c && d) = true then (cs.setIfInBounds 24 (.int .i64 at_)).setIfInBounds 25 (.int .i64 er) else cs).setIfInBounds f.toNat (nk f (svV f u))) := fun a b c d ha hb hc hd => by
    unfold vnC wideB; rw [ha, hb, hc, hd]
  generalize hvn : vnC cs f u ww at_ er = VN at *
  generalize nk f (svV f u) = nv at *
  generalize strOfNums (dcs u) = s at *
  go_enter Tryd.func71, Tryd.ntmps71
  refine wp_seq_k fun K hK => ?_
  have HK := TW.hide hK
  clear hK
  go_wp2
  refine HK.out _ _ ?_
  clear HK K
  generalize w.alloc _ = W at *
  generalize hB : w.heap.size = B at *
  have c0 : W.cell? ⟨B, 0, none⟩ = some (.int .i64 f) := blk_cell r0 rfl
  have R0 := TW.hide r0
  have L0 := TW.hide l0
  have B0 := TW.hide b0
  have HWW := TW.hide hw
  clear r0 l0 b0 hw
  go_wp2_with fail
  refine (HN.out _ (fun Z hZ => HT.out Z (below_row B0.out hZ (by have := blk_lt R0.out; omega)))).mono ?_
  rintro e w1 ⟨rfl, hb⟩
  have R1 := TW.hide (blk_keep R0.out hb)
  have L1 := TW.hide (L0.out.below hb)
  have B1 : Hid (Below B w w1) := below_row B0.out hb (by have := blk_lt R0.out; omega)
  have BT1 : Hid (But w w1 g) := But.of (hB ▸ B1.out)
  clear hb R0 L0 B0 c0
  have c0 : w1.cell? ⟨B, 0, none⟩ = some (.int .i64 f) := blk_cell R1.out rfl
  have c2 : w1.cell? ⟨B, 2, none⟩ = some (.int .i64 er) := blk_cell R1.out rfl
  have c25 : w1.cell? ⟨g, 25, none⟩ = some (.int .i64 ww) := L1.out.cell HWW.out
  obtain ⟨v24, c24⟩ := L1.out.has 24 (by omega)
  have f24 := L1.out.free 24
  have f25 := L1.out.free 25
  have lA := L1.out.set 24 (.int .i64 at_)
  have lB := lA.set 25 (.int .i64 er)
  have hgB : B ≠ g := by omega
  have L5 := TW.hide lB
  have R5 := TW.hide (blk_other (p := g) (o := 25) (u := .int .i64 er) (blk_other (p := g) (o := 24) (u := .int .i64 at_) R1.out hgB) hgB)
  have BT5 := TW.hide ((BT1.out.set 24 (.int .i64 at_)).set 25 (.int .i64 er))
  clear lA lB
  cases q5 : (f == 5)
  · cases q7 : (f == 7)
    · have qb : True := trivial
      have EQ := EV.out _ _ _ _ q5 q7 rfl rfl
      simp at EQ
      have HEQ := TW.hide EQ
      clear EQ EV
      go_wp2_with fail
      refine wp_region_noPanic ?_
      refine RG.wp_region_L (fun Z => Z.heap = w1.heap) (fun Z => True) [6] (by kernel_rfl) ?_
      refine RG.wpL_any fun Ya hY => ?_
      have HYa : Hid (Ya.heap = w1.heap) := by rw [hY]; rfl
      have HBa : Hid (But w Ya g) := by rw [hY]; exact BT1.out.drew
      clear hY
      refine RG.wpL_take (fuel := 1) (a' := ?Aa) [0, 1, 2, 3, 4, 5] (by kernel_rfl) (by kernel_rfl) (fun _ _ _ _ _ h => h) trivial (fun _ => HYa.out) ?ra ?_
      case ra =>
        refine RG.RunsIf.weak (v := ?_) (by rfl) (by rfl) (fun Z hT => ?_) ?_
        rotate_left
        · go_simp
          rfl
        simp only [Act.put, List.setIfInBounds_toArray, List.set_cons_zero, List.set_cons_succ, List.getElem_toArray, List.getElem_cons_zero, List.getElem_cons_succ]
        refine RG.RunsIf.weak (v := ?_) (by rfl) (by rfl) (fun Z hT => ?_) ?_
        rotate_left
        · go_simp
          rfl
        simp only [Act.put, List.setIfInBounds_toArray, List.set_cons_zero, List.set_cons_succ, List.getElem_toArray, List.getElem_cons_zero, List.getElem_cons_succ]
        refine RG.RunsIf.weak (v := ?_) (by rfl) (by rfl) (fun Z hT => ?_) ?_
        rotate_left
        · go_simp
          rfl
        simp only [Act.put, List.setIfInBounds_toArray, List.set_cons_zero, List.set_cons_succ, List.getElem_toArray, List.getElem_cons_zero, List.getElem_cons_succ]
        refine RG.RunsIf.weak (v := ?_) (by rfl) (by rfl) (fun Z hT => ?_) ?_
        rotate_left
        · go_simp
          rfl
        simp only [Act.put, List.setIfInBounds_toArray, List.set_cons_zero, List.set_cons_succ, List.getElem_toArray, List.getElem_cons_zero, List.getElem_cons_succ]
        refine RG.RunsIf.strong (v := .int .i64 f) (by rfl) (by kernel_rfl) (by rfl) (fun Z hT hS => ?_) ?_
        · have cz : Z.cell? ⟨B, 0, none⟩ = some (.int .i64 f) := blk_cell (by rw [hS]; exact R1.out) rfl
          go_simp
        simp only [Act.put, List.setIfInBounds_toArray, List.set_cons_zero, List.set_cons_succ, List.getElem_toArray, List.getElem_cons_zero, List.getElem_cons_succ]
        refine RG.RunsIf.weak (v := ?_) (by rfl) (by rfl) (fun Z hT => ?_) ?_
        rotate_left
        · go_simp
          rfl
        simp only [Act.put, List.setIfInBounds_toArray, List.set_cons_zero, List.set_cons_succ, List.getElem_toArray, List.getElem_cons_zero, List.getElem_cons_succ]
        exact RG.RunsIf.nil
      have LYa := TW.hide (L1.out.same HYa.out)
      refine RG.wpL_late (i := 6) (by kernel_rfl) (by rfl) (by rfl) (by kernel_rfl) (fun KX hK => ?_)
      have HK := TW.hide hK
      clear hK
      go_simp
      refine (HS.out _ _ LYa.out).mono ?_
      rintro e w2 ⟨rfl, rfl⟩
      refine HK.out _ _ trivial ?_
      clear HK KX
      refine RG.wpL_done (by kernel_rfl) ?_ _
      refine NoPanic.normal ?_
      go_wp2_with fail
      go_end0
      refine ⟨rfl, ?_, HBa.out.set _ _⟩
      rw [HEQ.out]
      exact LYa.out.set _ _
    · cases qb : decide (4294967295 < u)
      · have qz : True := trivial
        have EQ := EV.out _ _ _ _ q5 q7 qb rfl
        simp at EQ
        have HEQ := TW.hide EQ
        clear EQ EV
        have hbg : ¬ (4294967295 : Int) < (u : Int) := by have := of_decide_eq_false qb; omega
        go_wp2_with fail
        refine wp_region_noPanic ?_
        refine RG.wp_region_L (fun Z => Z.heap = w1.heap) (fun Z => True) [6] (by kernel_rfl) ?_
        refine RG.wpL_any fun Yb hY => ?_
        have HYb : Hid (Yb.heap = w1.heap) := by rw [hY]; rfl
        have HBb : Hid (But w Yb g) := by rw [hY]; exact BT1.out.drew
        clear hY
        refine RG.wpL_take (fuel := 1) (a' := ?Ab) [0, 1, 2, 3, 4, 5] (by kernel_rfl) (by kernel_rfl) (fun _ _ _ _ _ h => h) trivial (fun _ => HYb.out) ?rb ?_
        case rb =>
          refine RG.RunsIf.weak (v := ?_) (by rfl) (by rfl) (fun Z hT => ?_) ?_
          rotate_left
          · go_simp
            rfl
          simp only [Act.put, List.setIfInBounds_toArray, List.set_cons_zero, List.set_cons_succ, List.getElem_toArray, List.getElem_cons_zero, List.getElem_cons_succ]
          refine RG.RunsIf.weak (v := ?_) (by rfl) (by rfl) (fun Z hT => ?_) ?_
          rotate_left
          · go_simp
            rfl
          simp only [Act.put, List.setIfInBounds_toArray, List.set_cons_zero, List.set_cons_succ, List.getElem_toArray, List.getElem_cons_zero, List.getElem_cons_succ]
          refine RG.RunsIf.weak (v := ?_) (by rfl) (by rfl) (fun Z hT => ?_) ?_
          rotate_left
          · go_simp
            rfl
          simp only [Act.put, List.setIfInBounds_toArray, List.set_cons_zero, List.set_cons_succ, List.getElem_toArray, List.getElem_cons_zero, List.getElem_cons_succ]
          refine RG.RunsIf.weak (v := ?_) (by rfl) (by rfl) (fun Z hT => ?_) ?_
          rotate_left
          · go_simp
            rfl
          simp only [Act.put, List.setIfInBounds_toArray, List.set_cons_zero, List.set_cons_succ, List.getElem_toArray, List.getElem_cons_zero, List.getElem_cons_succ]
          refine RG.RunsIf.strong (v := .int .i64 f) (by rfl) (by kernel_rfl) (by rfl) (fun Z hT hS => ?_) ?_
          · have cz : Z.cell? ⟨B, 0, none⟩ = some (.int .i64 f) := blk_cell (by rw [hS]; exact R1.out) rfl
            go_simp
          simp only [Act.put, List.setIfInBounds_toArray, List.set_cons_zero, List.set_cons_succ, List.getElem_toArray, List.getElem_cons_zero, List.getElem_cons_succ]
          refine RG.RunsIf.weak (v := ?_) (by rfl) (by rfl) (fun Z hT => ?_) ?_
          rotate_left
          · go_simp
            rfl
          simp only [Act.put, List.setIfInBounds_toArray, List.set_cons_zero, List.set_cons_succ, List.getElem_toArray, List.getElem_cons_zero, List.getElem_cons_succ]
          exact RG.RunsIf.nil
        have LYb := TW.hide (L1.out.same HYb.out)
        refine RG.wpL_late (i := 6) (by kernel_rfl) (by rfl) (by rfl) (by kernel_rfl) (fun KX hK => ?_)
        have HK := TW.hide hK
        clear hK
        go_simp
        refine (HS.out _ _ LYb.out).mono ?_
        rintro e w2 ⟨rfl, rfl⟩
        refine HK.out _ _ trivial ?_
        clear HK KX
        refine RG.wpL_done (by kernel_rfl) ?_ _
        refine NoPanic.normal ?_
        go_wp2_with fail
        go_end0
        refine ⟨rfl, ?_, HBb.out.set _ _⟩
        rw [HEQ.out]
        exact LYb.out.set _ _
      · cases qw : (ww == 0)
        · have qz : True := trivial
          have EQ := EV.out _ _ _ _ q5 q7 qb qw
          simp at EQ
          have HEQ := TW.hide EQ
          clear EQ EV
          have hbg : (4294967295 : Int) < (u : Int) := by have := of_decide_eq_true qb; omega
          go_wp2_with fail
          refine wp_region_noPanic ?_
          refine RG.wp_region_L (fun Z => Z.heap = w1.heap) (fun Z => True) [6] (by kernel_rfl) ?_
          refine RG.wpL_any fun Yc hY => ?_
          have HYc : Hid (Yc.heap = w1.heap) := by rw [hY]; rfl
          have HBc : Hid (But w Yc g) := by rw [hY]; exact BT1.out.drew
          clear hY
          refine RG.wpL_take (fuel := 1) (a' := ?Ac) [0, 1, 2, 3, 4, 5] (by kernel_rfl) (by kernel_rfl) (fun _ _ _ _ _ h => h) trivial (fun _ => HYc.out) ?rc ?_
          case rc =>
            refine RG.RunsIf.weak (v := ?_) (by rfl) (by rfl) (fun Z hT => ?_) ?_
            rotate_left
            · go_simp
              rfl
            simp only [Act.put, List.setIfInBounds_toArray, List.set_cons_zero, List.set_cons_succ, List.getElem_toArray, List.getElem_cons_zero, List.getElem_cons_succ]
            refine RG.RunsIf.weak (v := ?_) (by rfl) (by rfl) (fun Z hT => ?_) ?_
            rotate_left
            · go_simp
              rfl
            simp only [Act.put, List.setIfInBounds_toArray, List.set_cons_zero, List.set_cons_succ, List.getElem_toArray, List.getElem_cons_zero, List.getElem_cons_succ]
            refine RG.RunsIf.weak (v := ?_) (by rfl) (by rfl) (fun Z hT => ?_) ?_
            rotate_left
            · go_simp
              rfl
            simp only [Act.put, List.setIfInBounds_toArray, List.set_cons_zero, List.set_cons_succ, List.getElem_toArray, List.getElem_cons_zero, List.getElem_cons_succ]
            refine RG.RunsIf.weak (v := ?_) (by rfl) (by rfl) (fun Z hT => ?_) ?_
            rotate_left
            · go_simp
              rfl
            simp only [Act.put, List.setIfInBounds_toArray, List.set_cons_zero, List.set_cons_succ, List.getElem_toArray, List.getElem_cons_zero, List.getElem_cons_succ]
            refine RG.RunsIf.strong (v := .int .i64 f) (by rfl) (by kernel_rfl) (by rfl) (fun Z hT hS => ?_) ?_
            · have cz : Z.cell? ⟨B, 0, none⟩ = some (.int .i64 f) := blk_cell (by rw [hS]; exact R1.out) rfl
              go_simp
            simp only [Act.put, List.setIfInBounds_toArray, List.set_cons_zero, List.set_cons_succ, List.getElem_toArray, List.getElem_cons_zero, List.getElem_cons_succ]
            refine RG.RunsIf.weak (v := ?_) (by rfl) (by rfl) (fun Z hT => ?_) ?_
            rotate_left
            · go_simp
              rfl
            simp only [Act.put, List.setIfInBounds_toArray, List.set_cons_zero, List.set_cons_succ, List.getElem_toArray, List.getElem_cons_zero, List.getElem_cons_succ]
            exact RG.RunsIf.nil
          have LYc := TW.hide (L1.out.same HYc.out)
          refine RG.wpL_late (i := 6) (by kernel_rfl) (by rfl) (by rfl) (by kernel_rfl) (fun KX hK => ?_)
          have HK := TW.hide hK
          clear hK
          go_simp
          refine (HS.out _ _ LYc.out).mono ?_
          rintro e w2 ⟨rfl, rfl⟩
          refine HK.out _ _ trivial ?_
          clear HK KX
          refine RG.wpL_done (by kernel_rfl) ?_ _
          refine NoPanic.normal ?_
          go_wp2_with fail
          go_end0
          refine ⟨rfl, ?_, HBc.out.set _ _⟩
          rw [HEQ.out]
          exact LYc.out.set _ _
        · have qz : True := trivial
          have EQ := EV.out _ _ _ _ q5 q7 qb qw
          simp at EQ
          have HEQ := TW.hide EQ
          clear EQ EV
          have hbg : (4294967295 : Int) < (u : Int) := by have := of_decide_eq_true qb; omega
          go_wp2_with fail
          generalize ((w1.setCell ⟨g, 24, none⟩ (.int .i64 at_)).setCell ⟨g, 25, none⟩ (.int .i64 er)) = X5 at *
          refine wp_region_noPanic ?_
          refine RG.wp_region_L (fun Z => Z.heap = X5.heap) (fun Z => True) [6] (by kernel_rfl) ?_
          refine RG.wpL_any fun Yd hY => ?_
          have HYd : Hid (Yd.heap = X5.heap) := by rw [hY]; rfl
          have HBd : Hid (But w Yd g) := by rw [hY]; exact BT5.out.drew
          clear hY
          refine RG.wpL_take (fuel := 1) (a' := ?Ad) [0, 1, 2, 3, 4, 5] (by kernel_rfl) (by kernel_rfl) (fun _ _ _ _ _ h => h) trivial (fun _ => HYd.out) ?rd ?_
          case rd =>
            refine RG.RunsIf.weak (v := ?_) (by rfl) (by rfl) (fun Z hT => ?_) ?_
            rotate_left
            · go_simp
              rfl
            simp only [Act.put, List.setIfInBounds_toArray, List.set_cons_zero, List.set_cons_succ, List.getElem_toArray, List.getElem_cons_zero, List.getElem_cons_succ]
            refine RG.RunsIf.weak (v := ?_) (by rfl) (by rfl) (fun Z hT => ?_) ?_
            rotate_left
            · go_simp
              rfl
            simp only [Act.put, List.setIfInBounds_toArray, List.set_cons_zero, List.set_cons_succ, List.getElem_toArray, List.getElem_cons_zero, List.getElem_cons_succ]
            refine RG.RunsIf.weak (v := ?_) (by rfl) (by rfl) (fun Z hT => ?_) ?_
            rotate_left
            · go_simp
              rfl
            simp only [Act.put, List.setIfInBounds_toArray, List.set_cons_zero, List.set_cons_succ, List.getElem_toArray, List.getElem_cons_zero, List.getElem_cons_succ]
            refine RG.RunsIf.weak (v := ?_) (by rfl) (by rfl) (fun Z hT => ?_) ?_
            rotate_left
            · go_simp
              rfl
            simp only [Act.put, List.setIfInBounds_toArray, List.set_cons_zero, List.set_cons_succ, List.getElem_toArray, List.getElem_cons_zero, List.getElem_cons_succ]
            refine RG.RunsIf.strong (v := .int .i64 f) (by rfl) (by kernel_rfl) (by rfl) (fun Z hT hS => ?_) ?_
            · have cz : Z.cell? ⟨B, 0, none⟩ = some (.int .i64 f) := blk_cell (by rw [hS]; exact R5.out) rfl
              go_simp
            simp only [Act.put, List.setIfInBounds_toArray, List.set_cons_zero, List.set_cons_succ, List.getElem_toArray, List.getElem_cons_zero, List.getElem_cons_succ]
            refine RG.RunsIf.weak (v := ?_) (by rfl) (by rfl) (fun Z hT => ?_) ?_
            rotate_left
            · go_simp
              rfl
            simp only [Act.put, List.setIfInBounds_toArray, List.set_cons_zero, List.set_cons_succ, List.getElem_toArray, List.getElem_cons_zero, List.getElem_cons_succ]
            exact RG.RunsIf.nil
          have LYd := TW.hide (L5.out.same HYd.out)
          refine RG.wpL_late (i := 6) (by kernel_rfl) (by rfl) (by rfl) (by kernel_rfl) (fun KX hK => ?_)
          have HK := TW.hide hK
          clear hK
          go_simp
          refine (HS.out _ _ LYd.out).mono ?_
          rintro e w2 ⟨rfl, rfl⟩
          refine HK.out _ _ trivial ?_
          clear HK KX
          refine RG.wpL_done (by kernel_rfl) ?_ _
          refine NoPanic.normal ?_
          go_wp2_with fail
          go_end0
          refine ⟨rfl, ?_, HBd.out.set _ _⟩
          rw [HEQ.out]
          exact LYd.out.set _ _
  · obtain ⟨q7v, q7⟩ : ∃ b, (f == 7) = b := ⟨_, rfl⟩
    cases qb : decide (4294967295 < u)
    · have qz : True := trivial
      have EQ := EV.out _ _ _ _ q5 q7 qb rfl
      simp at EQ
      have HEQ := TW.hide EQ
      clear EQ EV
      have hbg : ¬ (4294967295 : Int) < (u : Int) := by have := of_decide_eq_false qb; omega
      go_wp2_with fail
      refine wp_region_noPanic ?_
      refine RG.wp_region_L (fun Z => Z.heap = w1.heap) (fun Z => True) [6] (by kernel_rfl) ?_
      refine RG.wpL_any fun Ye hY => ?_
      have HYe : Hid (Ye.heap = w1.heap) := by rw [hY]; rfl
      have HBe : Hid (But w Ye g) := by rw [hY]; exact BT1.out.drew
      clear hY
      refine RG.wpL_take (fuel := 1) (a' := ?Ae) [0, 1, 2, 3, 4, 5] (by kernel_rfl) (by kernel_rfl) (fun _ _ _ _ _ h => h) trivial (fun _ => HYe.out) ?re ?_
      case re =>
        refine RG.RunsIf.weak (v := ?_) (by rfl) (by rfl) (fun Z hT => ?_) ?_
        rotate_left
        · go_simp
          rfl
        simp only [Act.put, List.setIfInBounds_toArray, List.set_cons_zero, List.set_cons_succ, List.getElem_toArray, List.getElem_cons_zero, List.getElem_cons_succ]
        refine RG.RunsIf.weak (v := ?_) (by rfl) (by rfl) (fun Z hT => ?_) ?_
        rotate_left
        · go_simp
          rfl
        simp only [Act.put, List.setIfInBounds_toArray, List.set_cons_zero, List.set_cons_succ, List.getElem_toArray, List.getElem_cons_zero, List.getElem_cons_succ]
        refine RG.RunsIf.weak (v := ?_) (by rfl) (by rfl) (fun Z hT => ?_) ?_
        rotate_left
        · go_simp
          rfl
        simp only [Act.put, List.setIfInBounds_toArray, List.set_cons_zero, List.set_cons_succ, List.getElem_toArray, List.getElem_cons_zero, List.getElem_cons_succ]
        refine RG.RunsIf.weak (v := ?_) (by rfl) (by rfl) (fun Z hT => ?_) ?_
        rotate_left
        · go_simp
          rfl
        simp only [Act.put, List.setIfInBounds_toArray, List.set_cons_zero, List.set_cons_succ, List.getElem_toArray, List.getElem_cons_zero, List.getElem_cons_succ]
        refine RG.RunsIf.strong (v := .int .i64 f) (by rfl) (by kernel_rfl) (by rfl) (fun Z hT hS => ?_) ?_
        · have cz : Z.cell? ⟨B, 0, none⟩ = some (.int .i64 f) := blk_cell (by rw [hS]; exact R1.out) rfl
          go_simp
        simp only [Act.put, List.setIfInBounds_toArray, List.set_cons_zero, List.set_cons_succ, List.getElem_toArray, List.getElem_cons_zero, List.getElem_cons_succ]
        refine RG.RunsIf.weak (v := ?_) (by rfl) (by rfl) (fun Z hT => ?_) ?_
        rotate_left
        · go_simp
          rfl
        simp only [Act.put, List.setIfInBounds_toArray, List.set_cons_zero, List.set_cons_succ, List.getElem_toArray, List.getElem_cons_zero, List.getElem_cons_succ]
        exact RG.RunsIf.nil
      have LYe := TW.hide (L1.out.same HYe.out)
      refine RG.wpL_late (i := 6) (by kernel_rfl) (by rfl) (by rfl) (by kernel_rfl) (fun KX hK => ?_)
      have HK := TW.hide hK
      clear hK
      go_simp
      refine (HS.out _ _ LYe.out).mono ?_
      rintro e w2 ⟨rfl, rfl⟩
      refine HK.out _ _ trivial ?_
      clear HK KX
      refine RG.wpL_done (by kernel_rfl) ?_ _
      refine NoPanic.normal ?_
      go_wp2_with fail
      go_end0
      refine ⟨rfl, ?_, HBe.out.set _ _⟩
      rw [HEQ.out]
      exact LYe.out.set _ _
    · cases qw : (ww == 0)
      · have qz : True := trivial
        have EQ := EV.out _ _ _ _ q5 q7 qb qw
        simp at EQ
        have HEQ := TW.hide EQ
        clear EQ EV
        have hbg : (4294967295 : Int) < (u : Int) := by have := of_decide_eq_true qb; omega
        go_wp2_with fail
        refine wp_region_noPanic ?_
        refine RG.wp_region_L (fun Z => Z.heap = w1.heap) (fun Z => True) [6] (by kernel_rfl) ?_
        refine RG.wpL_any fun Yg hY => ?_
        have HYg : Hid (Yg.heap = w1.heap) := by rw [hY]; rfl
        have HBg : Hid (But w Yg g) := by rw [hY]; exact BT1.out.drew
        clear hY
        refine RG.wpL_take (fuel := 1) (a' := ?Ag) [0, 1, 2, 3, 4, 5] (by kernel_rfl) (by kernel_rfl) (fun _ _ _ _ _ h => h) trivial (fun _ => HYg.out) ?rg ?_
        case rg =>
          refine RG.RunsIf.weak (v := ?_) (by rfl) (by rfl) (fun Z hT => ?_) ?_
          rotate_left
          · go_simp
            rfl
          simp only [Act.put, List.setIfInBounds_toArray, List.set_cons_zero, List.set_cons_succ, List.getElem_toArray, List.getElem_cons_zero, List.getElem_cons_succ]
          refine RG.RunsIf.weak (v := ?_) (by rfl) (by rfl) (fun Z hT => ?_) ?_
          rotate_left
          · go_simp
            rfl
          simp only [Act.put, List.setIfInBounds_toArray, List.set_cons_zero, List.set_cons_succ, List.getElem_toArray, List.getElem_cons_zero, List.getElem_cons_succ]
          refine RG.RunsIf.weak (v := ?_) (by rfl) (by rfl) (fun Z hT => ?_) ?_
          rotate_left
          · go_simp
            rfl
          simp only [Act.put, List.setIfInBounds_toArray, List.set_cons_zero, List.set_cons_succ, List.getElem_toArray, List.getElem_cons_zero, List.getElem_cons_succ]
          refine RG.RunsIf.weak (v := ?_) (by rfl) (by rfl) (fun Z hT => ?_) ?_
          rotate_left
          · go_simp
            rfl
          simp only [Act.put, List.setIfInBounds_toArray, List.set_cons_zero, List.set_cons_succ, List.getElem_toArray, List.getElem_cons_zero, List.getElem_cons_succ]
          refine RG.RunsIf.strong (v := .int .i64 f) (by rfl) (by kernel_rfl) (by rfl) (fun Z hT hS => ?_) ?_
          · have cz : Z.cell? ⟨B, 0, none⟩ = some (.int .i64 f) := blk_cell (by rw [hS]; exact R1.out) rfl
            go_simp
          simp only [Act.put, List.setIfInBounds_toArray, List.set_cons_zero, List.set_cons_succ, List.getElem_toArray, List.getElem_cons_zero, List.getElem_cons_succ]
          refine RG.RunsIf.weak (v := ?_) (by rfl) (by rfl) (fun Z hT => ?_) ?_
          rotate_left
          · go_simp
            rfl
          simp only [Act.put, List.setIfInBounds_toArray, List.set_cons_zero, List.set_cons_succ, List.getElem_toArray, List.getElem_cons_zero, List.getElem_cons_succ]
          exact RG.RunsIf.nil
        have LYg := TW.hide (L1.out.same HYg.out)
        refine RG.wpL_late (i := 6) (by kernel_rfl) (by rfl) (by rfl) (by kernel_rfl) (fun KX hK => ?_)
        have HK := TW.hide hK
        clear hK
        go_simp
        refine (HS.out _ _ LYg.out).mono ?_
        rintro e w2 ⟨rfl, rfl⟩
        refine HK.out _ _ trivial ?_
        clear HK KX
        refine RG.wpL_done (by kernel_rfl) ?_ _
        refine NoPanic.normal ?_
        go_wp2_with fail
        go_end0
        refine ⟨rfl, ?_, HBg.out.set _ _⟩
        rw [HEQ.out]
        exact LYg.out.set _ _
      · have qz : True := trivial
        have EQ := EV.out _ _ _ _ q5 q7 qb qw
        simp at EQ
        have HEQ := TW.hide EQ
        clear EQ EV
        have hbg : (4294967295 : Int) < (u : Int) := by have := of_decide_eq_true qb; omega
        go_wp2_with fail
        generalize ((w1.setCell ⟨g, 24, none⟩ (.int .i64 at_)).setCell ⟨g, 25, none⟩ (.int .i64 er)) = X5 at *
        refine wp_region_noPanic ?_
        refine RG.wp_region_L (fun Z => Z.heap = X5.heap) (fun Z => True) [6] (by kernel_rfl) ?_
        refine RG.wpL_any fun Yh hY => ?_
        have HYh : Hid (Yh.heap = X5.heap) := by rw [hY]; rfl
        have HBh : Hid (But w Yh g) := by rw [hY]; exact BT5.out.drew
        clear hY
        refine RG.wpL_take (fuel := 1) (a' := ?Ah) [0, 1, 2, 3, 4, 5] (by kernel_rfl) (by kernel_rfl) (fun _ _ _ _ _ h => h) trivial (fun _ => HYh.out) ?rh ?_
        case rh =>
          refine RG.RunsIf.weak (v := ?_) (by rfl) (by rfl) (fun Z hT => ?_) ?_
          rotate_left
          · go_simp
            rfl
          simp only [Act.put, List.setIfInBounds_toArray, List.set_cons_zero, List.set_cons_succ, List.getElem_toArray, List.getElem_cons_zero, List.getElem_cons_succ]
          refine RG.RunsIf.weak (v := ?_) (by rfl) (by rfl) (fun Z hT => ?_) ?_
          rotate_left
          · go_simp
            rfl
          simp only [Act.put, List.setIfInBounds_toArray, List.set_cons_zero, List.set_cons_succ, List.getElem_toArray, List.getElem_cons_zero, List.getElem_cons_succ]
          refine RG.RunsIf.weak (v := ?_) (by rfl) (by rfl) (fun Z hT => ?_) ?_
          rotate_left
          · go_simp
            rfl
          simp only [Act.put, List.setIfInBounds_toArray, List.set_cons_zero, List.set_cons_succ, List.getElem_toArray, List.getElem_cons_zero, List.getElem_cons_succ]
          refine RG.RunsIf.weak (v := ?_) (by rfl) (by rfl) (fun Z hT => ?_) ?_
          rotate_left
          · go_simp
            rfl
          simp only [Act.put, List.setIfInBounds_toArray, List.set_cons_zero, List.set_cons_succ, List.getElem_toArray, List.getElem_cons_zero, List.getElem_cons_succ]
          refine RG.RunsIf.strong (v := .int .i64 f) (by rfl) (by kernel_rfl) (by rfl) (fun Z hT hS => ?_) ?_
          · have cz : Z.cell? ⟨B, 0, none⟩ = some (.int .i64 f) := blk_cell (by rw [hS]; exact R5.out) rfl
            go_simp
          simp only [Act.put, List.setIfInBounds_toArray, List.set_cons_zero, List.set_cons_succ, List.getElem_toArray, List.getElem_cons_zero, List.getElem_cons_succ]
          refine RG.RunsIf.weak (v := ?_) (by rfl) (by rfl) (fun Z hT => ?_) ?_
          rotate_left
          · go_simp
            rfl
          simp only [Act.put, List.setIfInBounds_toArray, List.set_cons_zero, List.set_cons_succ, List.getElem_toArray, List.getElem_cons_zero, List.getElem_cons_succ]
          exact RG.RunsIf.nil
        have LYh := TW.hide (L5.out.same HYh.out)
        refine RG.wpL_late (i := 6) (by kernel_rfl) (by rfl) (by rfl) (by kernel_rfl) (fun KX hK => ?_)
        have HK := TW.hide hK
        clear hK
        go_simp
        refine (HS.out _ _ LYh.out).mono ?_
        rintro e w2 ⟨rfl, rfl⟩
        refine HK.out _ _ trivial ?_
        clear HK KX
        refine RG.wpL_done (by kernel_rfl) ?_ _
        refine NoPanic.normal ?_
        go_wp2_with fail
        go_end0
        refine ⟨rfl, ?_, HBh.out.set _ _⟩
        rw [HEQ.out]
        exact LYh.out.set _ _
end LW
end Go.Proofs.YteakoajkmcbilabDoor
namespace Go.Proofs.YteakoajkmcbilabDoor
open Go.RowKit Go.Shelf
set_option linter.unusedVariables false
set_option linter.unusedSimpArgs false
namespace LW
open Words Txt
set_option maxRecDepth 100000 in
set_option maxHeartbeats 4000000 in
theorem readVNo (g : Nat) (f : Int) (v : List Int) (at_ : Int) (x1 x2 x3 x4 x5 x6 : Value) (w : World) (h1 : 1 ≤ f) (h11 : f ≤ 11)
    (hN : f ≤ 9 → ∀ W, Below w.heap.size w W → Calls Tryd.prog 81 #[.string (strOfNums v), .int .i64 at_] W fun e w' => e = .panicked (flt at_ 4) ∧ Below W.heap.size W w')
    (hB : 9 < f → ∀ W, Below w.heap.size w W → Calls Tryd.prog 80 #[.string (strOfNums v), .int .i64 at_] W fun e w' => e = .panicked (flt at_ 4) ∧ Below W.heap.size W w') :
    Calls Tryd.prog 71 #[.pointer (some ⟨g, 0, none⟩), .agg #[.int .i64 f, x1, x2, x3, x4, x5, x6], .string (strOfNums v), .int .i64 at_] w fun e w' => e = .panicked (flt at_ 4) ∧ Below w.heap.size w w' := by
  have b0 := (Below.refl w.heap.size w).alloc (Nat.le_refl _) (.cells #[.int .i64 f, x1, x2, x3, x4, x5, x6] 62)
  have r0 := heap_alloc_new w (.cells #[.int .i64 f, x1, x2, x3, x4, x5, x6] 62)
  have HN := TW.hide hN
  have HBB := TW.hide hB
  clear hN hB
  generalize strOfNums v = s at *
  go_enter Tryd.func71, Tryd.ntmps71
  refine wp_seq_k fun K hK => ?_
  have HK := TW.hide hK
  clear hK
  go_wp2
  refine HK.out _ _ ?_
  clear HK K
  generalize w.alloc _ = W at *
  generalize hBq : w.heap.size = B at *
  have c0 : W.cell? ⟨B, 0, none⟩ = some (.int .i64 f) := blk_cell r0 rfl
  have hlt := blk_lt r0
  have B0 := TW.hide b0
  clear r0 b0
  by_cases h9 : f ≤ 9
  · have e10 : (f == 10) = false := by simp; omega
    have e11 : (f == 11) = false := by simp; omega
    go_wp2_with fail
    refine (HN.out h9 _ B0.out).mono ?_
    rintro e w1 ⟨rfl, hb⟩
    have B1 : Hid (Below B w w1) := below_row B0.out hb (by omega)
    exact ⟨rfl, rfl, B1.out⟩
  · have h10 : f = 10 ∨ f = 11 := by omega
    rcases h10 with rfl | rfl
    all_goals
      go_wp2_with fail
      refine (HBB.out (by omega) _ B0.out).mono ?_
      rintro e w1 ⟨rfl, hb⟩
      have B1 : Hid (Below B w w1) := below_row B0.out hb (by omega)
      exact ⟨rfl, rfl, B1.out⟩
/-- Which of the last 'n' fields a word says, and what. -/
def fldN (w : List Int) : Nat → Option (Nat × List Int)
  | 0 => none
  | n + 1 => if (nmL (11 - (n : Int)) ++ [61]).isPrefixOf w = true then some (10 - n, w.drop ((nmL (11 - (n : Int))).length + 1)) else fldN w n
theorem pre_iff (m a b : List Int) (hm : ∀ z ∈ m, z ≠ 61) (ha : ∀ z ∈ a, z ≠ 61) : ((m ++ [61]).isPrefixOf (a ++ 61 :: b) = true) ↔ m = a := by
  induction m generalizing a with
  | nil =>
    cases a with
    | nil => simp [List.isPrefixOf]
    | cons y a => simp [List.isPrefixOf]; intro h; exact absurd h.symm (ha y (by simp))
  | cons x m ih =>
    cases a with
    | nil => simp [List.isPrefixOf]; intro h; exact absurd h (hm x (by simp))
    | cons y a =>
      have := ih a (fun z hz => hm z (by simp [hz])) (fun z hz => ha z (by simp [hz]))
      simp only [List.cons_append, List.isPrefixOf, Bool.and_eq_true, this, beq_iff_eq, List.cons.injEq]
theorem pre_no (m w : List Int) (hw : ∀ z ∈ w, z ≠ 61) : (m ++ [61]).isPrefixOf w = false := by
  induction m generalizing w with
  | nil =>
    cases w with
    | nil => rfl
    | cons y w => simp [List.isPrefixOf]; intro h; exact absurd h.symm (hw y (by simp))
  | cons x m ih =>
    cases w with
    | nil => rfl
    | cons y w => simp only [List.cons_append, List.isPrefixOf, ih w (fun z hz => hw z (by simp [hz])), Bool.and_false]
theorem nmL_free (f : Int) : ∀ z ∈ nmL f, z ≠ 61 := fun z hz => by have := nmL_let f z hz; omega
theorem fldN_no (w : List Int) (hw : ∀ z ∈ w, z ≠ 61) (n : Nat) : fldN w n = none := by
  induction n with
  | zero => rfl
  | succ n ih => rw [fldN, pre_no _ w hw]; simpa using ih
theorem fldN_step (a b : List Int) (ha : ∀ z ∈ a, z ≠ 61) (j : Nat) (hj : j < 11) : fldN (a ++ 61 :: b) (11 - j) = if nmL ((j : Int) + 1) = a then some (j, b) else fldN (a ++ 61 :: b) (11 - (j + 1)) := by
  obtain ⟨n, hn⟩ : ∃ n, 11 - j = n + 1 := ⟨10 - j, by omega⟩
  have e1 : (11 - (n : Int)) = (j : Int) + 1 := by omega
  have e2 : 11 - (j + 1) = n := by omega
  have e3 : 10 - n = j := by omega
  rw [hn, fldN, e1, e2, e3]
  by_cases h : nmL ((j : Int) + 1) = a
  · rw [if_pos ((pre_iff _ a b (nmL_free _) ha).2 h), if_pos h, h]
    congr 2
    simp
  · rw [if_neg (fun hh => h ((pre_iff _ a b (nmL_free _) ha).1 hh)), if_neg h]
/-- A word has a sign of equality, or none. -/
theorem eq_or (w : List Int) : (∀ z ∈ w, z ≠ 61) ∨ ∃ a b, (∀ z ∈ a, z ≠ 61) ∧ w = a ++ 61 :: b := by
  induction w with
  | nil => exact .inl (by simp)
  | cons y w ih =>
    by_cases h : y = 61
    · subst h; exact .inr ⟨[], w, by simp, rfl⟩
    · rcases ih with h0 | ⟨a, b, ha, rfl⟩
      · exact .inl (fun z hz => by rcases List.mem_cons.1 hz with rfl | hz; exact h; exact h0 z hz)
      · exact .inr ⟨y :: a, b, fun z hz => by rcases List.mem_cons.1 hz with rfl | hz; exact h; exact ha z hz, rfl⟩
theorem free61 {l : List Int} (hb : Byt l) (h : ∀ z ∈ l, z ≠ 61) : ∀ z ∈ l.map u8, z ≠ u8 61 := by
  intro z hz
  obtain ⟨y, hy, rfl⟩ := List.mem_map.1 hz
  exact u8_ne (hb y hy) (by omega) (h y hy)
theorem index_no (c : UInt8) (l : List UInt8) (h : ∀ z ∈ l, z ≠ c) : Lib.index l [c] = -1 := by
  induction l with
  | nil => simp [Lib.index]
  | cons b l ih =>
    have hb := h b (by simp)
    have ih := ih (fun z hz => h z (by simp [hz]))
    have hp : ([c] : List UInt8).isPrefixOf (b :: l) = false := by simp [List.isPrefixOf, Ne.symm hb]
    rw [Lib.index, hp, ih]
    simp
theorem cutYes (a b : List Int) (m : Int) (w : World) (ha : Byt a) (hf : ∀ z ∈ a, z ≠ 61) (hl : (a ++ 61 :: b).length ≤ 512) (hm : w.cell? ⟨1, 0, none⟩ = some (.int .i64 m)) :
    Calls Tryd.prog 70 #[.string (strOfNums (a ++ 61 :: b)), .string { data := #[61] }] w fun e w' => e = .returned (.tuple #[.string (strOfNums a), .string (strOfNums b), .bool true]) ∧ Below w.heap.size w w' := by
  have h := Any.strings_Cut (P := Tryd.prog) (ρ := laysCU_ren) laysCU (strOfNums (a ++ 61 :: b)) ⟨#[61]⟩ m w (by rw [strOf_size]; omega) hm
  have hc : Lib.cut (strOfNums (a ++ 61 :: b)).data.toList (⟨#[61]⟩ : ByteArray).data.toList = (a.map u8, b.map u8, true) := by
    rw [strOfNums_data]
    have := cut_here 61 (a.map u8) (b.map u8) (free61 ha hf)
    rw [← this]
    simp
  rw [hc] at h
  refine h.mono ?_
  rintro e w' ⟨rfl, n, rfl⟩
  exact ⟨rfl, below_drewN (Below.refl _ _) _⟩
theorem cutNo (l : List Int) (m : Int) (w : World) (hb : Byt l) (hf : ∀ z ∈ l, z ≠ 61) (hl : l.length ≤ 512) (hm : w.cell? ⟨1, 0, none⟩ = some (.int .i64 m)) :
    Calls Tryd.prog 70 #[.string (strOfNums l), .string { data := #[61] }] w fun e w' => (∃ x y, e = .returned (.tuple #[.string x, .string y, .bool false])) ∧ Below w.heap.size w w' := by
  have h := Any.strings_Cut (P := Tryd.prog) (ρ := laysCU_ren) laysCU (strOfNums l) ⟨#[61]⟩ m w (by rw [strOf_size]; omega) hm
  have hc : (Lib.cut (strOfNums l).data.toList (⟨#[61]⟩ : ByteArray).data.toList).2.2 = false := by
    rw [strOfNums_data]
    unfold Lib.cut
    rw [index_no 61 _ (free61 hb hf), if_neg (by omega)]
  refine h.mono ?_
  rintro e w' ⟨rfl, n, rfl⟩
  rw [hc]
  exact ⟨⟨_, _, rfl⟩, below_drewN (Below.refl _ _) _⟩
end LW
end Go.Proofs.YteakoajkmcbilabDoor
namespace Go.Proofs.YteakoajkmcbilabDoor
open Go.RowKit Go.Shelf
set_option linter.unusedVariables false
set_option linter.unusedSimpArgs false
namespace LW
open Words Txt
theorem fldN_none {a b : List Int} (ha : ∀ z ∈ a, z ≠ 61) (n : Nat) (hn : n ≤ 11) (h : fldN (a ++ 61 :: b) n = none) : ∀ j, 11 - n ≤ j → j < 11 → ¬ nmL ((j : Int) + 1) = a := by
  induction n with
  | zero => intro j h1 h2; omega
  | succ n ih =>
    have hs := fldN_step a b ha (10 - n) (by omega)
    rw [show 11 - (10 - n) = n + 1 by omega, show 11 - (10 - n + 1) = n by omega] at hs
    rw [hs] at h
    intro j h1 h2
    by_cases hc : nmL (((10 - n : Nat) : Int) + 1) = a
    · rw [if_pos hc] at h; cases h
    · rw [if_neg hc] at h
      by_cases hj : j = 10 - n
      · subst hj; exact hc
      · exact ih (by omega) h j (by omega) h2
theorem fldN_some {a b : List Int} (ha : ∀ z ∈ a, z ≠ 61) (n : Nat) (hn : n ≤ 11) {k : Nat} {v : List Int} (h : fldN (a ++ 61 :: b) n = some (k, v)) : 11 - n ≤ k ∧ k < 11 ∧ nmL ((k : Int) + 1) = a ∧ v = b ∧ ∀ j, 11 - n ≤ j → j < k → ¬ nmL ((j : Int) + 1) = a := by
  induction n with
  | zero => cases h
  | succ n ih =>
    have hs := fldN_step a b ha (10 - n) (by omega)
    rw [show 11 - (10 - n) = n + 1 by omega, show 11 - (10 - n + 1) = n by omega] at hs
    rw [hs] at h
    by_cases hc : nmL (((10 - n : Nat) : Int) + 1) = a
    · rw [if_pos hc] at h
      injection h with h
      injection h with h1 h2
      subst h1 h2
      exact ⟨by omega, by omega, hc, rfl, fun j h1 h2 => by omega⟩
    · rw [if_neg hc] at h
      obtain ⟨h1, h2, h3, h4, h5⟩ := ih (by omega) h
      refine ⟨by omega, h2, h3, h4, fun j g1 g2 => ?_⟩
      by_cases hj : j = 10 - n
      · subst hj; exact hc
      · exact h5 j (by omega) g2
theorem nmF {j : Nat} (hj : j < 11) {a : List Int} (ha : Byt a) (h : ¬ nmL ((j : Int) + 1) = a) : ((nmOf ((j : Int) + 1)).toList == (strOfNums a).toList) = false := by
  rw [nmOf_eq _ (by omega) (by omega)]
  exact strOf_eqF (nmL_byt _) ha h


set_option maxRecDepth 100000 in
set_option maxHeartbeats 4000000 in
theorem readFx (l : List Int) (hb : Byt l) (hl : l.length ≤ 512) (hf : ∀ z ∈ l, z ≠ 61) (g : Nat) (cs : Array Value) (r : Nat) (at_ m : Int) (w : World) (hL : Lc w g cs) (hrow : cs[23]? = some (.int .i64 r)) (hr : r ≤ 11) (hm : ∀ W, Below w.heap.size w W → W.cell? ⟨1, 0, none⟩ = some (.int .i64 m)) :
    Calls Tryd.prog 64 #[.pointer (some ⟨g, 0, none⟩), .string (strOfNums l), .int .i64 at_] w fun e w' => e = .panicked (flt at_ 4) ∧ But w w' g := by
  have HC := TW.hide (fun W hm => cutNo l m W hb hf hl hm)
  have HR := TW.hide (fun W => rows W)
  have HM := TW.hide hm
  have HL := TW.hide hL
  have HRW := TW.hide hrow
  clear hm hL hl hrow hb hf
  generalize strOfNums l = s at *
  go_enter Tryd.func64, Tryd.ntmps64
  refine wp_seq_k fun KK hK => ?_
  have HK := TW.hide hK
  clear hK
  go_wp2_with fail
  refine (HC.out _ (HM.out _ (Below.refl _ _))).mono ?_
  rintro e w1 ⟨⟨xx, yy, rfl⟩, hb⟩
  have L1 := TW.hide (HL.out.below hb)
  have B1 := TW.hide hb
  clear hb
  go_wp2_with fail
  refine HK.out _ _ ?_
  clear HK KK
  refine wp_seq_k fun KK hK => ?_
  have HK := TW.hide hK
  clear hK
  go_wp2_with fail
  refine (HR.out _).mono ?_
  rintro e w2 ⟨rfl, hb⟩
  have L2 := TW.hide (L1.out.below hb)
  have B2 : Hid (Below w.heap.size w w2) := below_row B1.out hb B1.out.size
  clear hb L1 B1
  have M0 := TW.hide (heap_alloc_new w2 (.cells Tryd.zeroCells63 63))
  go_wp2_with (refine wpList_store_row (by rfl) 63 _ _ (by rfl) w2.heap.size rowsC (by rfl) (by rfl) 63 _ M0.out info63 (by kernel_rfl) rowsC_one ?_)
  refine HK.out _ _ ?_
  clear HK KK
  simp only [Act.put]
  have t1 := setRow_heap _ _ _ rowsC _ _ M0.out
  have hgt : g ≠ w2.heap.size := by have := L2.out.lt; omega
  have l3 : Lc ((w2.alloc (.cells Tryd.zeroCells63 63)).setRow w2.heap.size rowsC) g cs := ⟨by rw [setRow_other _ _ _ _ hgt]; exact blk_alloc L2.out.blk, L2.out.size⟩
  have hs2 := B2.out.size
  have b3 : Below w.heap.size w ((w2.alloc (.cells Tryd.zeroCells63 63)).setRow w2.heap.size rowsC) := below_setRow (B2.out.alloc hs2 _) hs2
  generalize (w2.alloc (.cells Tryd.zeroCells63 63)).setRow w2.heap.size rowsC = X at t1 l3 b3 ⊢
  generalize w2.heap.size = tb at *
  have T1 := TW.hide t1
  have L3 := TW.hide l3
  have B3 := TW.hide b3
  clear t1 l3 b3 M0 L2 B2 HC HR
  have c23 : X.cell? ⟨g, 23, none⟩ = some (.int .i64 r) := L3.out.cell HRW.out
  go_wp2_with fail
  go_loop [10] (fun i => ∃ j : Nat, r ≤ j ∧ j ≤ 11 ∧ i = .int .i64 j) (fun i => 11 - (intOf i).toNat)
  case atStart => exact ⟨r, Nat.le_refl _, hr, rfl⟩
  case round =>
    obtain ⟨j, hj1, hj2, rfl⟩ := hrel
    clear c23
    by_cases hlt : j < 11
    · have hj11 : (j : Int) < 11 := by omega
      go_wp2_with fail
      go_round
      case rel => exact ⟨j + 1, by omega, by omega, by go_num⟩
      case measure => simp [intOf]; omega
    · obtain rfl : j = 11 := by omega
      go_wp2_with fail
      exact ⟨rfl, rfl, But.of B3.out⟩
set_option maxRecDepth 100000 in
set_option maxHeartbeats 4000000 in
theorem readFn (a b : List Int) (hb : Byt a) (hl : (a ++ 61 :: b).length ≤ 512) (hf : ∀ z ∈ a, z ≠ 61) (g : Nat) (cs : Array Value) (r : Nat) (at_ m : Int) (w : World) (hL : Lc w g cs) (hrow : cs[23]? = some (.int .i64 r)) (hr : r ≤ 11) (hm : ∀ W, Below w.heap.size w W → W.cell? ⟨1, 0, none⟩ = some (.int .i64 m)) (hfd : fldN (a ++ 61 :: b) (11 - r) = none) :
    Calls Tryd.prog 64 #[.pointer (some ⟨g, 0, none⟩), .string (strOfNums (a ++ 61 :: b)), .int .i64 at_] w fun e w' => e = .panicked (flt at_ 4) ∧ But w w' g := by
  have HC := TW.hide (fun W hm => cutYes a b m W hb hf hl hm)
  have HR := TW.hide (fun W => rows W)
  have HM := TW.hide hm
  have HL := TW.hide hL
  have HNE := TW.hide (fun j (h1 : r ≤ j) (h2 : j < 11) => nmF h2 hb (fldN_none hf (11 - r) (by omega) hfd j (by omega) h2))
  have HRW := TW.hide hrow
  clear hm hL hl hrow hb hf hfd
  generalize strOfNums (a ++ 61 :: b) = s at *
  generalize strOfNums a = nm at *
  generalize strOfNums b = sv at *
  go_enter Tryd.func64, Tryd.ntmps64
  refine wp_seq_k fun KK hK => ?_
  have HK := TW.hide hK
  clear hK
  go_wp2_with fail
  refine (HC.out _ (HM.out _ (Below.refl _ _))).mono ?_
  rintro e w1 ⟨rfl, hb⟩
  have L1 := TW.hide (HL.out.below hb)
  have B1 := TW.hide hb
  clear hb
  go_wp2_with fail
  refine HK.out _ _ ?_
  clear HK KK
  refine wp_seq_k fun KK hK => ?_
  have HK := TW.hide hK
  clear hK
  go_wp2_with fail
  refine (HR.out _).mono ?_
  rintro e w2 ⟨rfl, hb⟩
  have L2 := TW.hide (L1.out.below hb)
  have B2 : Hid (Below w.heap.size w w2) := below_row B1.out hb B1.out.size
  clear hb L1 B1
  have M0 := TW.hide (heap_alloc_new w2 (.cells Tryd.zeroCells63 63))
  go_wp2_with (refine wpList_store_row (by rfl) 63 _ _ (by rfl) w2.heap.size rowsC (by rfl) (by rfl) 63 _ M0.out info63 (by kernel_rfl) rowsC_one ?_)
  refine HK.out _ _ ?_
  clear HK KK
  simp only [Act.put]
  have t1 := setRow_heap _ _ _ rowsC _ _ M0.out
  have hgt : g ≠ w2.heap.size := by have := L2.out.lt; omega
  have l3 : Lc ((w2.alloc (.cells Tryd.zeroCells63 63)).setRow w2.heap.size rowsC) g cs := ⟨by rw [setRow_other _ _ _ _ hgt]; exact blk_alloc L2.out.blk, L2.out.size⟩
  have hs2 := B2.out.size
  have b3 : Below w.heap.size w ((w2.alloc (.cells Tryd.zeroCells63 63)).setRow w2.heap.size rowsC) := below_setRow (B2.out.alloc hs2 _) hs2
  generalize (w2.alloc (.cells Tryd.zeroCells63 63)).setRow w2.heap.size rowsC = X at t1 l3 b3 ⊢
  generalize w2.heap.size = tb at *
  have T1 := TW.hide t1
  have L3 := TW.hide l3
  have B3 := TW.hide b3
  clear t1 l3 b3 M0 L2 B2 HC HR
  have c23 : X.cell? ⟨g, 23, none⟩ = some (.int .i64 r) := L3.out.cell HRW.out
  go_wp2_with fail
  go_loop [10] (fun i => ∃ j : Nat, r ≤ j ∧ j ≤ 11 ∧ i = .int .i64 j) (fun i => 11 - (intOf i).toNat)
  case atStart => exact ⟨r, Nat.le_refl _, hr, rfl⟩
  case round =>
    obtain ⟨j, hj1, hj2, rfl⟩ := hrel
    clear c23
    by_cases hlt : j < 11
    · have cn : X.cell? ⟨tb, j * 7 + 1, none⟩ = some (.string (nmOf ((j : Int) + 1))) := blk_cell T1.out (rowName j (by omega))
      have hj0 : (0 : Int) ≤ j := by omega
      have hj11 : (j : Int) < 11 := by omega
      have hne := HNE.out j hj1 hlt
      generalize nmOf ((j : Int) + 1) = nj at *
      go_wp2_with fail
      go_round
      case rel => exact ⟨j + 1, by omega, by omega, by go_num⟩
      case measure => simp [intOf]; omega
    · obtain rfl : j = 11 := by omega
      go_wp2_with fail
      exact ⟨rfl, rfl, But.of B3.out⟩
set_option maxRecDepth 100000 in
set_option maxHeartbeats 4000000 in
theorem readFok (g : Nat) (R : Array Value → World → Prop) (hR : ∀ cs W W', R cs W → But W W' g → R cs W') (a b : List Int) (hb : Byt a) (hl : (a ++ 61 :: b).length ≤ 512) (hf : ∀ z ∈ a, z ≠ 61) (cs : Array Value) (r : Nat) (at_ m : Int) (w : World) (hL : Lc w g cs) (hrow : cs[23]? = some (.int .i64 r)) (hr : r ≤ 11) (hm : ∀ W, Below w.heap.size w W → W.cell? ⟨1, 0, none⟩ = some (.int .i64 m)) (k : Nat) (v : List Int) (hfd : fldN (a ++ 61 :: b) (11 - r) = some (k, v))
    (hV : ∀ W, Below w.heap.size w W → Calls Tryd.prog 71 #[.pointer (some ⟨g, 0, none⟩), .agg (rowV ((k : Int) + 1)).toArray, .string (strOfNums v), .int .i64 at_] W fun e w' => e = .returned (.tuple #[]) ∧ ∃ cs', Lc w' g cs' ∧ R cs' w' ∧ But W w' g) :
    Calls Tryd.prog 64 #[.pointer (some ⟨g, 0, none⟩), .string (strOfNums (a ++ 61 :: b)), .int .i64 at_] w fun e w' => e = .returned (.tuple #[]) ∧ ∃ cs', R cs' w' ∧ Lc w' g ((cs'.setIfInBounds (12 + k) (.int .i64 at_)).setIfInBounds 23 (.int .i64 ((k : Int) + 1))) ∧ But w w' g := by
  obtain ⟨k1, hk, k3, rfl, k5⟩ := fldN_some hf (11 - r) (by omega) hfd
  have hrk : r ≤ k := by omega
  have HC := TW.hide (fun W hm => cutYes a v m W hb hf hl hm)
  have HR := TW.hide (fun W => rows W)
  have HM := TW.hide hm
  have HV := TW.hide hV
  have HL := TW.hide hL
  have HNE := TW.hide (fun j (h1 : r ≤ j) (h2 : j < k) => nmF (by omega) hb (k5 j (by omega) h2))
  have heq : ((nmOf ((k : Int) + 1)).toList == (strOfNums a).toList) = true := by rw [← k3]; exact nm_eq hk
  have HE := TW.hide heq
  have HRW := TW.hide hrow
  clear hm hV hL hl hrow hb hf hfd k3 k5 heq k1
  generalize strOfNums (a ++ 61 :: v) = s at *
  generalize strOfNums a = nm at *
  generalize strOfNums v = sv at *
  go_enter Tryd.func64, Tryd.ntmps64
  refine wp_seq_k fun KK hK => ?_
  have HK := TW.hide hK
  clear hK
  go_wp2_with fail
  refine (HC.out _ (HM.out _ (Below.refl _ _))).mono ?_
  rintro e w1 ⟨rfl, hb⟩
  have L1 := TW.hide (HL.out.below hb)
  have B1 := TW.hide hb
  clear hb
  go_wp2_with fail
  refine HK.out _ _ ?_
  clear HK KK
  refine wp_seq_k fun KK hK => ?_
  have HK := TW.hide hK
  clear hK
  go_wp2_with fail
  refine (HR.out _).mono ?_
  rintro e w2 ⟨rfl, hb⟩
  have L2 := TW.hide (L1.out.below hb)
  have B2 : Hid (Below w.heap.size w w2) := below_row B1.out hb B1.out.size
  clear hb L1 B1
  have M0 := TW.hide (heap_alloc_new w2 (.cells Tryd.zeroCells63 63))
  go_wp2_with (refine wpList_store_row (by rfl) 63 _ _ (by rfl) w2.heap.size rowsC (by rfl) (by rfl) 63 _ M0.out info63 (by kernel_rfl) rowsC_one ?_)
  refine HK.out _ _ ?_
  clear HK KK
  simp only [Act.put]
  have t1 := setRow_heap _ _ _ rowsC _ _ M0.out
  have hgt : g ≠ w2.heap.size := by have := L2.out.lt; omega
  have l3 : Lc ((w2.alloc (.cells Tryd.zeroCells63 63)).setRow w2.heap.size rowsC) g cs := ⟨by rw [setRow_other _ _ _ _ hgt]; exact blk_alloc L2.out.blk, L2.out.size⟩
  have hs2 := B2.out.size
  have b3 : Below w.heap.size w ((w2.alloc (.cells Tryd.zeroCells63 63)).setRow w2.heap.size rowsC) := below_setRow (B2.out.alloc hs2 _) hs2
  generalize (w2.alloc (.cells Tryd.zeroCells63 63)).setRow w2.heap.size rowsC = X at t1 l3 b3 ⊢
  generalize w2.heap.size = tb at *
  have T1 := TW.hide t1
  have L3 := TW.hide l3
  have B3 := TW.hide b3
  clear t1 l3 b3 M0 L2 B2 HC HR
  have c23 : X.cell? ⟨g, 23, none⟩ = some (.int .i64 r) := L3.out.cell HRW.out
  go_wp2_with fail
  go_loop [10] (fun i => ∃ j : Nat, r ≤ j ∧ j ≤ k ∧ i = .int .i64 j) (fun i => 11 - (intOf i).toNat)
  case atStart => exact ⟨r, Nat.le_refl _, hrk, rfl⟩
  case round =>
    obtain ⟨j, hj1, hj2, rfl⟩ := hrel
    clear c23
    have cn : X.cell? ⟨tb, j * 7 + 1, none⟩ = some (.string (nmOf ((j : Int) + 1))) := blk_cell T1.out (rowName j (by omega))
    have hj0 : (0 : Int) ≤ j := by omega
    have hj11 : (j : Int) < 11 := by omega
    by_cases hlt : j < k
    · have hne := HNE.out j hj1 hlt
      generalize nmOf ((j : Int) + 1) = nj at *
      go_wp2_with fail
      go_round
      case rel => exact ⟨j + 1, by omega, by omega, by go_num⟩
      case measure => simp [intOf]; omega
    · obtain rfl : j = k := by omega
      have heq := HE.out
      generalize nmOf ((j : Int) + 1) = nj at cn heq
      have RG7 : Hid (X.rangeAt tb (j * 7) (rowV ((j : Int) + 1))) := fun q y hy => by
        rw [← rowMid j hk] at hy
        refine blk_cell T1.out ?_
        rw [List.getElem?_take] at hy
        split at hy
        · rw [List.getElem?_drop, Array.getElem?_toList] at hy; exact hy
        · cases hy
      clear HE
      go_wp2_with (refine wpList_load_mid (by rfl) 62 _ (by rfl) tb (j * 7) (by rfl) (rowV ((j : Int) + 1)) _ RG7.out Tryd.underlying62 rfl (by kernel_rfl) ?_)
      refine (HV.out _ B3.out).mono ?_
      rintro e Y ⟨rfl, cs', lY, hq, hbut⟩
      have HQ := TW.hide hq
      have BT : Hid (But w Y g) := (But.of B3.out).trans hbut
      have LY := TW.hide lY
      clear hq hbut HV B3 L3 RG7 T1 cn heq
      obtain ⟨vA, cA⟩ := lY.has (12 + j) (by omega)
      have fA := lY.free (12 + j)
      have lY2 := lY.set (12 + j) (.int .i64 at_)
      obtain ⟨vB, cB⟩ := lY2.has 23 (by omega)
      have fB := lY2.free 23
      clear lY lY2
      go_wp2_with fail
      refine bodyPost_ret (results_none rfl _ _ _) rfl ?_
      exact ⟨rfl, cs', hR _ _ _ HQ.out (((But.refl Y g).set _ _).set _ _), (LY.out.set _ _).set _ _, (BT.out.set _ _).set _ _⟩
set_option maxRecDepth 100000 in
set_option maxHeartbeats 4000000 in
theorem readFno (a b : List Int) (hb : Byt a) (hl : (a ++ 61 :: b).length ≤ 512) (hf : ∀ z ∈ a, z ≠ 61) (g : Nat) (cs : Array Value) (r : Nat) (at_ m : Int) (w : World) (hL : Lc w g cs) (hrow : cs[23]? = some (.int .i64 r)) (hr : r ≤ 11) (hm : ∀ W, Below w.heap.size w W → W.cell? ⟨1, 0, none⟩ = some (.int .i64 m)) (k : Nat) (v : List Int) (hfd : fldN (a ++ 61 :: b) (11 - r) = some (k, v))
    (hV : ∀ W, Below w.heap.size w W → Calls Tryd.prog 71 #[.pointer (some ⟨g, 0, none⟩), .agg (rowV ((k : Int) + 1)).toArray, .string (strOfNums v), .int .i64 at_] W fun e w' => e = .panicked (flt at_ 4) ∧ Below W.heap.size W w') :
    Calls Tryd.prog 64 #[.pointer (some ⟨g, 0, none⟩), .string (strOfNums (a ++ 61 :: b)), .int .i64 at_] w fun e w' => e = .panicked (flt at_ 4) ∧ But w w' g := by
  obtain ⟨k1, hk, k3, rfl, k5⟩ := fldN_some hf (11 - r) (by omega) hfd
  have hrk : r ≤ k := by omega
  have HC := TW.hide (fun W hm => cutYes a v m W hb hf hl hm)
  have HR := TW.hide (fun W => rows W)
  have HM := TW.hide hm
  have HV := TW.hide hV
  have HL := TW.hide hL
  have HNE := TW.hide (fun j (h1 : r ≤ j) (h2 : j < k) => nmF (by omega) hb (k5 j (by omega) h2))
  have heq : ((nmOf ((k : Int) + 1)).toList == (strOfNums a).toList) = true := by rw [← k3]; exact nm_eq hk
  have HE := TW.hide heq
  have HRW := TW.hide hrow
  clear hm hV hL hl hrow hb hf hfd k3 k5 heq k1
  generalize strOfNums (a ++ 61 :: v) = s at *
  generalize strOfNums a = nm at *
  generalize strOfNums v = sv at *
  go_enter Tryd.func64, Tryd.ntmps64
  refine wp_seq_k fun KK hK => ?_
  have HK := TW.hide hK
  clear hK
  go_wp2_with fail
  refine (HC.out _ (HM.out _ (Below.refl _ _))).mono ?_
  rintro e w1 ⟨rfl, hb⟩
  have L1 := TW.hide (HL.out.below hb)
  have B1 := TW.hide hb
  clear hb
  go_wp2_with fail
  refine HK.out _ _ ?_
  clear HK KK
  refine wp_seq_k fun KK hK => ?_
  have HK := TW.hide hK
  clear hK
  go_wp2_with fail
  refine (HR.out _).mono ?_
  rintro e w2 ⟨rfl, hb⟩
  have L2 := TW.hide (L1.out.below hb)
  have B2 : Hid (Below w.heap.size w w2) := below_row B1.out hb B1.out.size
  clear hb L1 B1
  have M0 := TW.hide (heap_alloc_new w2 (.cells Tryd.zeroCells63 63))
  go_wp2_with (refine wpList_store_row (by rfl) 63 _ _ (by rfl) w2.heap.size rowsC (by rfl) (by rfl) 63 _ M0.out info63 (by kernel_rfl) rowsC_one ?_)
  refine HK.out _ _ ?_
  clear HK KK
  simp only [Act.put]
  have t1 := setRow_heap _ _ _ rowsC _ _ M0.out
  have hgt : g ≠ w2.heap.size := by have := L2.out.lt; omega
  have l3 : Lc ((w2.alloc (.cells Tryd.zeroCells63 63)).setRow w2.heap.size rowsC) g cs := ⟨by rw [setRow_other _ _ _ _ hgt]; exact blk_alloc L2.out.blk, L2.out.size⟩
  have hs2 := B2.out.size
  have b3 : Below w.heap.size w ((w2.alloc (.cells Tryd.zeroCells63 63)).setRow w2.heap.size rowsC) := below_setRow (B2.out.alloc hs2 _) hs2
  generalize (w2.alloc (.cells Tryd.zeroCells63 63)).setRow w2.heap.size rowsC = X at t1 l3 b3 ⊢
  generalize w2.heap.size = tb at *
  have T1 := TW.hide t1
  have L3 := TW.hide l3
  have B3 := TW.hide b3
  clear t1 l3 b3 M0 L2 B2 HC HR
  have c23 : X.cell? ⟨g, 23, none⟩ = some (.int .i64 r) := L3.out.cell HRW.out
  go_wp2_with fail
  go_loop [10] (fun i => ∃ j : Nat, r ≤ j ∧ j ≤ k ∧ i = .int .i64 j) (fun i => 11 - (intOf i).toNat)
  case atStart => exact ⟨r, Nat.le_refl _, hrk, rfl⟩
  case round =>
    obtain ⟨j, hj1, hj2, rfl⟩ := hrel
    clear c23
    have cn : X.cell? ⟨tb, j * 7 + 1, none⟩ = some (.string (nmOf ((j : Int) + 1))) := blk_cell T1.out (rowName j (by omega))
    have hj0 : (0 : Int) ≤ j := by omega
    have hj11 : (j : Int) < 11 := by omega
    by_cases hlt : j < k
    · have hne := HNE.out j hj1 hlt
      generalize nmOf ((j : Int) + 1) = nj at *
      go_wp2_with fail
      go_round
      case rel => exact ⟨j + 1, by omega, by omega, by go_num⟩
      case measure => simp [intOf]; omega
    · obtain rfl : j = k := by omega
      have heq := HE.out
      generalize nmOf ((j : Int) + 1) = nj at cn heq
      have RG7 : Hid (X.rangeAt tb (j * 7) (rowV ((j : Int) + 1))) := fun q y hy => by
        rw [← rowMid j hk] at hy
        refine blk_cell T1.out ?_
        rw [List.getElem?_take] at hy
        split at hy
        · rw [List.getElem?_drop, Array.getElem?_toList] at hy; exact hy
        · cases hy
      clear HE
      go_wp2_with (refine wpList_load_mid (by rfl) 62 _ (by rfl) tb (j * 7) (by rfl) (rowV ((j : Int) + 1)) _ RG7.out Tryd.underlying62 rfl (by kernel_rfl) ?_)
      refine (HV.out _ B3.out).mono ?_
      rintro e Y ⟨rfl, hb⟩
      have BT : Hid (But w Y g) := (But.of B3.out).trans (But.of hb)
      go_wp2_with fail
      exact ⟨rfl, rfl, BT.out⟩
end LW
end Go.Proofs.YteakoajkmcbilabDoor
