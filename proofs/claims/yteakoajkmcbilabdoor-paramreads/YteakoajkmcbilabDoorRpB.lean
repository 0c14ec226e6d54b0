/-
  readField as a step of what was read; readLine of whatever line.
-/
import Derived.Test.YteakoajkmcbilabDoorRpA
import Derived.Test.YteakoajkmcbilabDoorUnsaid
namespace Go.Proofs.YteakoajkmcbilabDoor
open Go.RowKit Go.Shelf
set_option linter.unusedVariables false
set_option linter.unusedSimpArgs false
namespace LW
open Words Txt
/-- What was read of a line. -/
structure Rs where
  q : Pm
  s : List Int
  t : List Int
  r : Nat
  ats : List Int
  wa : Int
  ww : Int
/-- A number set. -/
def setQ (q : Pm) (f u : Int) : Pm :=
  ⟨if f = 1 then svV f u else q.d, if f = 2 then svV f u else q.k, if f = 3 then svV f u else q.f, if f = 4 then svV f u else q.dp, if f = 5 then svV f u else q.lf, if f = 6 then svV f u else q.off, if f = 7 then svV f u else q.xof, if f = 8 then svV f u else q.nd, if f = 9 then svV f u else q.inn⟩
theorem setQ_nv (q : Pm) (f u : Int) (e : Int) (h1 : 1 ≤ e) (h9 : e ≤ 9) : (setQ q f u).nv e = if f = e then svV f u else q.nv e := by
  have : e = 1 ∨ e = 2 ∨ e = 3 ∨ e = 4 ∨ e = 5 ∨ e = 6 ∨ e = 7 ∨ e = 8 ∨ e = 9 := by omega
  rcases this with rfl | rfl | rfl | rfl | rfl | rfl | rfl | rfl | rfl <;> simp [setQ, Pm.nv, LW.nv]
theorem setQ_ok {q : Pm} (hq : q.Ok) (f : Int) (u : Nat) (h : u < 18446744073709551616) : (setQ q f u).Ok := by
  obtain ⟨a, b, c, d, e, g⟩ := hq
  have m1 := Int.emod_nonneg (u : Int) (show (4294967296 : Int) ≠ 0 by omega)
  have m2 := Int.emod_lt_of_pos (u : Int) (show (0 : Int) < 4294967296 by omega)
  have v6 : svV 6 u = u := by unfold svV; rw [if_neg (by omega), if_pos rfl]
  have v7 : svV 7 u = u % 4294967296 := by unfold svV; rw [if_pos (by omega)]
  have v5 : svV 5 u = u % 4294967296 := by unfold svV; rw [if_pos (by omega)]
  refine ⟨?_, ?_, ?_, ?_, ?_, ?_⟩
  · show (0 : Int) ≤ if f = 6 then svV f u else q.off
    split
    · rename_i h6; rw [h6, v6]; omega
    · exact a
  · show (if f = 6 then svV f u else q.off) < 18446744073709551616
    split
    · rename_i h6; rw [h6, v6]; omega
    · exact b
  · show (0 : Int) ≤ if f = 7 then svV f u else q.xof
    split
    · rename_i h6; rw [h6, v7]; exact m1
    · exact c
  · show (if f = 7 then svV f u else q.xof) < 4294967296
    split
    · rename_i h6; rw [h6, v7]; exact m2
    · exact d
  · show (0 : Int) ≤ if f = 5 then svV f u else q.lf
    split
    · rename_i h6; rw [h6, v5]; exact m1
    · exact e
  · show (if f = 5 then svV f u else q.lf) < 4294967296
    split
    · rename_i h6; rw [h6, v5]; exact m2
    · exact g
/-- A word read. -/
def stepR (st : Rs) (w : List Int) (at_ : Int) : Option Rs :=
  match fldN w (11 - st.r) with
  | none => none
  | some (k, v) =>
    if k < 9 then
      match numV v with
      | none => none
      | some u => some ⟨setQ st.q ((k : Int) + 1) u, st.s, st.t, k + 1, st.ats.set k at_, if wideB ((k : Int) + 1) u st.ww = true then at_ else st.wa, if wideB ((k : Int) + 1) u st.ww = true then erOf ((k : Int) + 1) else st.ww⟩
    else
      match bytV v with
      | none => none
      | some b => some ⟨st.q, if k = 9 then b else st.s, if k = 9 then st.t else b, k + 1, st.ats.set k at_, st.wa, st.ww⟩
/-- The line's cells say so. -/
structure Lr (w : World) (g : Nat) (kd : Int) (st : Rs) (cs : Array Value) (a1 a2 : Option Addr) (c1 c2 : Nat) : Prop where
  lc : Lc w g cs
  kind : cs[0]? = some (.int .i64 kd)
  num : ∀ f : Nat, 1 ≤ f → f ≤ 9 → cs[f]? = some (nk f (st.q.nv f))
  salt : cs[10]? = some (.slice a1 st.s.length c1)
  pers : cs[11]? = some (.slice a2 st.t.length c2)
  s : Pn w (g + 1) a1 c1 st.s
  t : Pn w (g + 1) a2 c2 st.t
  ats : ∀ i : Nat, i < 11 → cs[12 + i]? = some (.int .i64 (st.ats.getD i 0))
  rows : cs[23]? = some (.int .i64 st.r)
  wa : cs[24]? = some (.int .i64 st.wa)
  ww : cs[25]? = some (.int .i64 st.ww)
/-- What holds of every state. -/
structure Rs.Good (st : Rs) : Prop where
  ok : st.q.Ok
  r : st.r ≤ 11
  n : st.ats.length = 11
  ls : st.s.length ≤ 256
  lt : st.t.length ≤ 256
def Lrs (w : World) (g : Nat) (kd : Int) (st : Rs) : Prop := ∃ cs a1 a2 c1 c2, Lr w g kd st cs a1 a2 c1 c2
theorem vnC_size (cs : Array Value) (f : Int) (u : Nat) (ww at_ er : Int) : (vnC cs f u ww at_ er).size = cs.size := by
  unfold vnC; split <;> simp
theorem vnC_at {cs : Array Value} (hs : cs.size = 26) (f : Int) (u : Nat) (ww at_ er : Int) (h1 : 1 ≤ f) (h9 : f ≤ 9) : (vnC cs f u ww at_ er)[f.toNat]? = some (nk f (svV f u)) := by
  unfold vnC
  exact Array.getElem?_setIfInBounds_self_of_lt (by split <;> (simp [hs]; omega))
theorem vnC_other {cs : Array Value} (f : Int) (u : Nat) (ww at_ er : Int) (i : Nat) (h0 : f.toNat ≠ i) (h4 : i ≠ 24) (h5 : i ≠ 25) : (vnC cs f u ww at_ er)[i]? = cs[i]? := by
  unfold vnC
  rw [Array.getElem?_setIfInBounds_ne h0]
  split
  · rw [Array.getElem?_setIfInBounds_ne (Ne.symm h5), Array.getElem?_setIfInBounds_ne (Ne.symm h4)]
  · rfl
theorem vnC_wide {cs : Array Value} (hs : cs.size = 26) (f : Int) (u : Nat) (ww at_ er wa : Int) (h9 : f ≤ 9) (ha : cs[24]? = some (.int .i64 wa)) (hb : cs[25]? = some (.int .i64 ww)) :
    (vnC cs f u ww at_ er)[24]? = some (.int .i64 (if wideB f u ww = true then at_ else wa)) ∧ (vnC cs f u ww at_ er)[25]? = some (.int .i64 (if wideB f u ww = true then er else ww)) := by
  unfold vnC
  rw [Array.getElem?_setIfInBounds_ne (by omega), Array.getElem?_setIfInBounds_ne (by omega)]
  split
  · exact ⟨by rw [Array.getElem?_setIfInBounds_ne (by omega), Array.getElem?_setIfInBounds_self_of_lt (by omega)], by rw [Array.getElem?_setIfInBounds_self_of_lt (by simp [hs])]⟩
  · exact ⟨ha, hb⟩
theorem set2 {cs : Array Value} {j : Nat} {a b : Value} (q : Nat) (h2 : q ≠ j) (h3 : q ≠ 23) : ((cs.setIfInBounds j a).setIfInBounds 23 b)[q]? = cs[q]? := by
  rw [Array.getElem?_setIfInBounds_ne (Ne.symm h3), Array.getElem?_setIfInBounds_ne (Ne.symm h2)]
theorem ats_set {ats : List Int} (hn : ats.length = 11) {cs : Array Value} (hs : cs.size = 26) (k : Nat) (hk : k < 11) (at_ : Int) (b : Value) (h : ∀ i : Nat, i < 11 → cs[12 + i]? = some (.int .i64 (ats.getD i 0))) (i : Nat) (hi : i < 11) :
    ((cs.setIfInBounds (12 + k) (.int .i64 at_)).setIfInBounds 23 b)[12 + i]? = some (.int .i64 ((ats.set k at_).getD i 0)) := by
  rw [Array.getElem?_setIfInBounds_ne (by omega)]
  by_cases hik : i = k
  · subst hik
    rw [Array.getElem?_setIfInBounds_self_of_lt (by omega)]
    simp [List.getD_eq_getElem?_getD, List.getElem?_set, hn, hi]
  · rw [Array.getElem?_setIfInBounds_ne (by omega), h i hi]
    simp [List.getD_eq_getElem?_getD, List.getElem?_set, Ne.symm hik]
set_option maxRecDepth 100000 in
theorem readBytA (S : List Int) (at_ : Int) (w : World) (h : Byt S) (hl : S.length ≤ 256) :
    Calls Tryd.prog 80 #[.string (strOfNums (hx S)), .int .i64 at_] w fun e w' => ∃ a c, e = .returned (.slice a S.length c) ∧ Pn w' w.heap.size a c S ∧ Below w.heap.size w w' := by
  have HU : Hid (∀ W : World, Calls Tryd.prog 91 #[.string (strOfNums (hx S))] W fun e w' => ∃ v, e = .returned (.tuple #[v, .int .i64 0, .int .i64 0]) ∧ w'.ownsRow W.heap.size 5 1 v S.length (vs S) ∧ Below W.heap.size W w') := fun W => by
    have h1 := unhex (strOfNums (hx S)) W (by rw [strOf_size, hx_length]; omega)
    rw [sb_str _ (hx_byt h), hexB_hx h, hexE_hx h, hexAt_hx h] at h1
    exact h1
  have HH := TW.hide (fun a cap W (hr : Row W a S) => hex a cap S W h hr (by omega))
  have hne : ((strOfNums (hx S)).toList != (strOfNums (hx S)).toList) = false := by simp
  have heq : ((strOfNums (hx S)).toList == (strOfNums (hx S)).toList) = true := by simp
  generalize strOfNums (hx S) = s at *
  go_enter Tryd.func80, Tryd.ntmps80
  go_wp2_with fail
  refine (HU.out _).mono ?_
  rintro e w1 ⟨v, rfl, ho, hb⟩
  obtain ⟨a, cap, rfl, hp⟩ := Pn.own ho (by omega) h
  have HO := TW.hide hp
  have B1 := TW.hide hb
  clear hb ho hp hl h
  generalize hn : S.length = n at *
  go_wp2_with fail
  refine (HH.out _ _ _ HO.out.row).mono ?_
  rintro e w2 ⟨rfl, hb⟩
  have B2 : Hid (Below w.heap.size w w2) := below_row B1.out hb B1.out.size
  have HO2 := TW.hide (HO.out.below hb)
  clear hb
  go_wp2_with fail
  go_ret
  exact ⟨a, cap, by rw [hn]; rfl, HO2.out, B2.out⟩
set_option maxRecDepth 100000 in
set_option maxHeartbeats 4000000 in
theorem readVC (g : Nat) (cs : Array Value) (f : Int) (S : List Int) (at_ : Int) (x1 x2 x3 x4 x5 x6 : Value) (w : World) (hL : Lc w g cs) (hf : f = 10 ∨ f = 11) (hS : Byt S) (hl : S.length ≤ 256) :
    Calls Tryd.prog 71 #[.pointer (some ⟨g, 0, none⟩), .agg #[.int .i64 f, x1, x2, x3, x4, x5, x6], .string (strOfNums (hx S)), .int .i64 at_] w fun e w' => e = .returned (.tuple #[]) ∧ ∃ Z a c, Below w.heap.size w Z ∧ Pn Z w.heap.size a c S ∧ w' = Z.setCell ⟨g, f.toNat, none⟩ (.slice a S.length c) := by
  have HN := TW.hide (fun W => readBytA S at_ W hS hl)
  have b0 := (Below.refl w.heap.size w).alloc (Nat.le_refl _) (.cells #[.int .i64 f, x1, x2, x3, x4, x5, x6] 62)
  have r0 := heap_alloc_new w (.cells #[.int .i64 f, x1, x2, x3, x4, x5, x6] 62)
  have l0 := hL.below b0
  clear hL hS hl
  generalize strOfNums (hx S) = s at *
  generalize hn : S.length = n at *
  have HNN := TW.hide hn
  clear hn
  rcases hf with rfl | rfl
  all_goals
    go_enter Tryd.func71, Tryd.ntmps71
    refine wp_seq_k fun K hK => ?_
    have HK := TW.hide hK
    clear hK
    go_wp2
    refine HK.out _ _ ?_
    clear HK K
    generalize w.alloc _ = W at *
    generalize hB : w.heap.size = B at *
    have c0 := blk_cell (i := 0) r0 rfl
    have R0 := TW.hide r0
    have L0 := TW.hide l0
    have B0 := TW.hide b0
    clear r0 l0 b0
    go_wp2_with fail
    refine (HN.out _).mono ?_
    rintro e w1 ⟨a, c, rfl, hp, hb⟩
    have L1 := TW.hide (L0.out.below hb)
    have B1 : Hid (Below B w w1) := below_row B0.out hb (by have := blk_lt R0.out; omega)
    have P1 := TW.hide (hp.mono (B' := B) (by have := blk_lt R0.out; omega))
    clear hb R0 L0 B0 c0 hp
    obtain ⟨v10, c10⟩ := L1.out.has 10 (by omega)
    obtain ⟨v11, c11⟩ := L1.out.has 11 (by omega)
    have f10 := L1.out.free 10
    have f11 := L1.out.free 11
    go_wp2_with fail
    go_end0
    exact ⟨rfl, w1, a, c, B1.out, P1.out, rfl⟩
/-- What a word's reading needs of the world. -/
structure Rw (w : World) (m : Int) (es er : Value) : Prop where
  mx : ∀ W, Below w.heap.size w W → W.cell? ⟨1, 0, none⟩ = some (.int .i64 m)
  tab : ∀ W, Below w.heap.size w W → Tab10 W
  fs : ∀ W, Below w.heap.size w W → W.cell? ⟨6, 0, none⟩ = some es
  fr : ∀ W, Below w.heap.size w W → W.cell? ⟨7, 0, none⟩ = some er
  ks : es = .nilIface ∨ ∃ te pe, es = .iface te pe
  kr : er = .nilIface ∨ ∃ te pe, er = .iface te pe
theorem Rw.below {w w' : World} {m : Int} {es er : Value} (h : Rw w m es er) (hb : Below w.heap.size w w') : Rw w' m es er :=
  ⟨fun W hW => h.mx W (below_row hb hW hb.size), fun W hW => h.tab W (below_row hb hW hb.size), fun W hW => h.fs W (below_row hb hW hb.size), fun W hW => h.fr W (below_row hb hW hb.size), h.ks, h.kr⟩
theorem readFS (g : Nat) (kd : Int) (st : Rs) (hst : st.Good) (wd : List Int) (hb : Byt wd) (hl : wd.length ≤ 512) (at_ m : Int) (es er : Value) (cs : Array Value) (a1 a2 : Option Addr) (c1 c2 : Nat) (w : World) (h : Lr w g kd st cs a1 a2 c1 c2) (hw : Rw w m es er) :
    Calls Tryd.prog 64 #[.pointer (some ⟨g, 0, none⟩), .string (strOfNums wd), .int .i64 at_] w fun e w' =>
      But w w' g ∧ ((stepR st wd at_ = none ∧ e = .panicked (flt at_ 4)) ∨ ∃ st', stepR st wd at_ = some st' ∧ st'.Good ∧ e = .returned (.tuple #[]) ∧ Lrs w' g kd st') := by
  rcases eq_or wd with hno | ⟨a, b, ha, rfl⟩
  · refine (readFx wd hb hl hno g cs st.r at_ m w h.lc h.rows hst.r hw.mx).mono ?_
    rintro e w' ⟨rfl, hbut⟩
    refine ⟨hbut, .inl ⟨?_, rfl⟩⟩
    unfold stepR
    rw [fldN_no wd hno]
  · have hba : Byt a := fun z hz => hb z (by simp [hz])
    have hbb : Byt b := fun z hz => hb z (by simp [hz])
    have hlb : b.length ≤ 512 := by simp at hl; omega
    cases hfd : fldN (a ++ 61 :: b) (11 - st.r) with
    | none =>
      refine (readFn a b hba hl ha g cs st.r at_ m w h.lc h.rows hst.r hw.mx hfd).mono ?_
      rintro e w' ⟨rfl, hbut⟩
      refine ⟨hbut, .inl ⟨?_, rfl⟩⟩
      unfold stepR
      rw [hfd]
    | some kv =>
      obtain ⟨k, v⟩ := kv
      obtain ⟨k1, hk, k3, rfl, k5⟩ := fldN_some ha (11 - st.r) (by omega) hfd
      by_cases h9 : k < 9
      · cases hnv : numV v with
        | none =>
          refine (readFno a v hba hl ha g cs st.r at_ m w h.lc h.rows hst.r hw.mx k v hfd (fun W hW => ?_)).mono ?_
          · exact readVNo g ((k : Int) + 1) v at_ _ _ _ _ _ _ W (by omega) (by omega)
              (fun _ Z hZ => readNumNo v at_ Z hbb hlb hnv es er (fun U hU => (hw.below (below_row hW hZ hW.size)).fs U hU) (fun U hU => (hw.below (below_row hW hZ hW.size)).fr U hU) hw.ks hw.kr (fun U hU => (hw.below (below_row hW hZ hW.size)).tab U hU))
              (fun hc => by omega)
          · rintro e w' ⟨rfl, hbut⟩
            refine ⟨hbut, .inl ⟨?_, rfl⟩⟩
            unfold stepR
            simp only [hfd, h9, if_true, hnv]
        | some u =>
          obtain ⟨rfl, hu⟩ := numV_some hnv
          refine (readFok g (fun cs' W => cs' = vnC cs ((k : Int) + 1) u st.ww at_ (erOf ((k : Int) + 1))) (fun _ _ _ hh _ => hh) a _ hba hl ha cs st.r at_ m w h.lc h.rows hst.r hw.mx k _ hfd (fun W hW => ?_)).mono ?_
          · refine (readVA g cs ((k : Int) + 1) u at_ (erOf ((k : Int) + 1)) st.ww _ _ _ _ _ W (h.lc.below hW) h.ww (by omega) (by omega) hu (hw.below hW).tab).mono ?_
            rintro e w' ⟨rfl, hlc, hbut⟩
            exact ⟨rfl, _, hlc, rfl, hbut⟩
          · rintro e w' ⟨rfl, cs', rfl, hlc, hbut⟩
            refine ⟨hbut, .inr ⟨⟨setQ st.q ((k : Int) + 1) u, st.s, st.t, k + 1, st.ats.set k at_, if wideB ((k : Int) + 1) u st.ww = true then at_ else st.wa, if wideB ((k : Int) + 1) u st.ww = true then erOf ((k : Int) + 1) else st.ww⟩, by unfold stepR; simp only [hfd, h9, if_true, hnv], ⟨setQ_ok hst.ok _ u hu, by simp only; omega, by simp [hst.n], hst.ls, hst.lt⟩, rfl, ?_⟩⟩
            have hs := h.lc.size
            have hft : (((k : Int) + 1)).toNat = k + 1 := by omega
            have hwd := vnC_wide hs ((k : Int) + 1) u st.ww at_ (erOf ((k : Int) + 1)) st.wa (by omega) h.wa h.ww
            have hvs := vnC_size cs ((k : Int) + 1) u st.ww at_ (erOf ((k : Int) + 1))
            refine ⟨_, a1, a2, c1, c2, hlc, ?_, fun f h1 h9' => ?_, ?_, ?_, h.s.but hbut, h.t.but hbut, fun i hi => ?_, ?_, ?_, ?_⟩
            · rw [set2 0 (by omega) (by omega), vnC_other _ _ _ _ _ 0 (by omega) (by omega) (by omega)]; exact h.kind
            · rw [set2 f (by omega) (by omega)]
              have hq := setQ_nv st.q ((k : Int) + 1) u (f : Int) (by omega) (by omega)
              by_cases hf : f = k + 1
              · subst hf
                have := vnC_at hs ((k : Int) + 1) u st.ww at_ (erOf ((k : Int) + 1)) (by omega) (by omega)
                rw [hft] at this
                rw [this, hq, if_pos (by omega)]
                rfl
              · rw [vnC_other _ _ _ _ _ f (by omega) (by omega) (by omega), h.num f h1 h9', hq, if_neg (by omega)]
            · rw [set2 10 (by omega) (by omega), vnC_other _ _ _ _ _ 10 (by omega) (by omega) (by omega)]; exact h.salt
            · rw [set2 11 (by omega) (by omega), vnC_other _ _ _ _ _ 11 (by omega) (by omega) (by omega)]; exact h.pers
            · refine ats_set hst.n (by rw [hvs, hs]) k hk at_ _ (fun i' hi' => ?_) i hi
              by_cases h24 : 12 + i' = 24
              · omega
              · rw [vnC_other _ _ _ _ _ (12 + i') (by omega) (by omega) (by omega)]; exact h.ats i' hi'
            · rw [Array.getElem?_setIfInBounds_self_of_lt (by simp [hvs, hs])]
              simp
            · rw [set2 24 (by omega) (by omega)]; exact hwd.1
            · rw [set2 25 (by omega) (by omega)]; exact hwd.2
      · cases hbv : bytV v with
        | none =>
          refine (readFno a v hba hl ha g cs st.r at_ m w h.lc h.rows hst.r hw.mx k v hfd (fun W hW => ?_)).mono ?_
          · exact readVNo g ((k : Int) + 1) v at_ _ _ _ _ _ _ W (by omega) (by omega) (fun hc => by omega) (fun _ Z hZ => readBytNo v at_ Z hbb hlb hbv)
          · rintro e w' ⟨rfl, hbut⟩
            refine ⟨hbut, .inl ⟨?_, rfl⟩⟩
            unfold stepR
            simp only [hfd, h9, if_false, hbv]
        | some bb =>
          obtain ⟨rfl, hbyt⟩ := bytV_some hbb hbv
          have hlen : bb.length ≤ 256 := by rw [hx_length] at hlb; omega
          have hk9 : k = 9 ∨ k = 10 := by omega
          have hs := h.lc.size
          refine (readFok g (fun cs' W => ∃ x c, cs' = cs.setIfInBounds (k + 1) (.slice x bb.length c) ∧ Pn W (g + 1) x c bb) (fun _ _ _ ⟨x, c, h1, h2⟩ hbt => ⟨x, c, h1, h2.but hbt⟩) a _ hba hl ha cs st.r at_ m w h.lc h.rows hst.r hw.mx k _ hfd (fun W hW => ?_)).mono ?_
          · refine (readVC g cs ((k : Int) + 1) bb at_ _ _ _ _ _ _ W (h.lc.below hW) (by omega) hbyt hlen).mono ?_
            rintro e w' ⟨rfl, Z, x, c, hZ, hP, rfl⟩
            have hgl := (h.lc.below hW).lt
            rw [show (((k : Int) + 1)).toNat = k + 1 by omega]
            exact ⟨rfl, _, ((h.lc.below hW).below hZ).set _ _, ⟨x, c, rfl, (hP.mono (by omega)).set (by omega) _⟩, (But.of hZ).set _ _⟩
          · rintro e w' ⟨rfl, cs', ⟨x, c, rfl, hP⟩, hlc, hbut⟩
            refine ⟨hbut, .inr ⟨⟨st.q, if k = 9 then bb else st.s, if k = 9 then st.t else bb, k + 1, st.ats.set k at_, st.wa, st.ww⟩, by unfold stepR; simp only [hfd, h9, if_false, hbv], ⟨hst.ok, by simp only; omega, by simp [hst.n], ?_, ?_⟩, rfl, ?_⟩⟩
            · simp only; split
              · exact hlen
              · exact hst.ls
            · simp only; split
              · exact hst.lt
              · exact hlen
            rcases hk9 with rfl | rfl
            · refine ⟨_, x, a2, c, c2, hlc, ?_, fun f h1 h9' => ?_, ?_, ?_, hP, h.t.but hbut, fun i hi => ?_, ?_, ?_, ?_⟩
              · rw [set2 0 (by omega) (by omega), Array.getElem?_setIfInBounds_ne (by omega)]; exact h.kind
              · rw [set2 f (by omega) (by omega), Array.getElem?_setIfInBounds_ne (by omega)]; exact h.num f h1 h9'
              · rw [set2 10 (by omega) (by omega), Array.getElem?_setIfInBounds_self_of_lt (by omega)]; rfl
              · rw [set2 11 (by omega) (by omega), Array.getElem?_setIfInBounds_ne (by omega)]; exact h.pers
              · exact ats_set hst.n (by simp [hs]) 9 hk at_ _ (fun i' hi' => by rw [Array.getElem?_setIfInBounds_ne (by omega)]; exact h.ats i' hi') i hi
              · rw [Array.getElem?_setIfInBounds_self_of_lt (by simp [hs])]; rfl
              · rw [set2 24 (by omega) (by omega), Array.getElem?_setIfInBounds_ne (by omega)]; exact h.wa
              · rw [set2 25 (by omega) (by omega), Array.getElem?_setIfInBounds_ne (by omega)]; exact h.ww
            · refine ⟨_, a1, x, c1, c, hlc, ?_, fun f h1 h9' => ?_, ?_, ?_, h.s.but hbut, hP, fun i hi => ?_, ?_, ?_, ?_⟩
              · rw [set2 0 (by omega) (by omega), Array.getElem?_setIfInBounds_ne (by omega)]; exact h.kind
              · rw [set2 f (by omega) (by omega), Array.getElem?_setIfInBounds_ne (by omega)]; exact h.num f h1 h9'
              · rw [set2 10 (by omega) (by omega), Array.getElem?_setIfInBounds_ne (by omega)]; exact h.salt
              · rw [set2 11 (by omega) (by omega), Array.getElem?_setIfInBounds_self_of_lt (by omega)]; rfl
              · exact ats_set hst.n (by simp [hs]) 10 hk at_ _ (fun i' hi' => by rw [Array.getElem?_setIfInBounds_ne (by omega)]; exact h.ats i' hi') i hi
              · rw [Array.getElem?_setIfInBounds_self_of_lt (by simp [hs])]; rfl
              · rw [set2 24 (by omega) (by omega), Array.getElem?_setIfInBounds_ne (by omega)]; exact h.wa
              · rw [set2 25 (by omega) (by omega), Array.getElem?_setIfInBounds_ne (by omega)]; exact h.ww
end LW
end Go.Proofs.YteakoajkmcbilabDoor
namespace Go.Proofs.YteakoajkmcbilabDoor
open Go.RowKit Go.Shelf
set_option linter.unusedVariables false
set_option linter.unusedSimpArgs false
namespace LW
open Words Txt
/-- What a line says that says nothing. -/
def initR (kd : Int) : Rs := ⟨usP kd, [], [], 0, List.replicate 11 0, 0, 0⟩
theorem initR_good (kd : Int) : (initR kd).Good := ⟨usP_ok kd, by simp [initR], by simp [initR], by simp [initR], by simp [initR]⟩
/-- All words read; else the place of the first that can't stand there. -/
def runR : Rs → List (List Int) → Int → Rs ⊕ Int
  | st, [], _ => .inl st
  | st, w :: ws, at_ => match stepR st w at_ with
    | none => .inr at_
    | some st' => runR st' ws (at_ + ((w.length : Int) + 1))
theorem words_of (l : List Int) : ∃ w0 ws, l = w0 ++ joinI ws ∧ (∀ z ∈ w0, z ≠ 32) ∧ (∀ v ∈ ws, ∀ z ∈ v, z ≠ 32) := by
  induction l with
  | nil => exact ⟨[], [], rfl, by simp, by simp⟩
  | cons z l ih =>
    obtain ⟨w0, ws, rfl, h0, hs⟩ := ih
    by_cases hz : z = 32
    · subst hz
      refine ⟨[], w0 :: ws, rfl, by simp, fun v hv => ?_⟩
      rcases List.mem_cons.1 hv with rfl | hv
      · exact h0
      · exact hs v hv
    · exact ⟨z :: w0, ws, rfl, fun y hy => by rcases List.mem_cons.1 hy with rfl | hy; exact hz; exact h0 y hy, hs⟩
theorem free32 {l : List Int} (hb : Byt l) (h : ∀ z ∈ l, z ≠ 32) : ∀ z ∈ l.map u8, z ≠ 32 := by
  intro z hz
  obtain ⟨y, hy, rfl⟩ := List.mem_map.1 hz
  exact u8_ne (b := 32) (hb y hy) (by omega) (h y hy)
theorem splitJ (w0 : List Int) (ws : List (List Int)) (b0 : Byt w0) (bs : ∀ v ∈ ws, Byt v) (h0 : ∀ z ∈ w0, z ≠ 32) (hs : ∀ v ∈ ws, ∀ z ∈ v, z ≠ 32) :
    Lib.countB (strOfNums (w0 ++ joinI ws)) ⟨#[32]⟩ = ws.length ∧ Lib.splitB ⟨#[32]⟩ 0 ws.length (strOfNums (w0 ++ joinI ws)) = (w0 :: ws).map strOfNums := by
  have f0 : ∀ z ∈ w0.map u8, z ≠ 32 := free32 b0 h0
  have fs : ∀ v ∈ ws.map (List.map u8), ∀ z ∈ v, z ≠ 32 := fun v hv => by
    obtain ⟨y, hy, rfl⟩ := List.mem_map.1 hv
    exact free32 (bs y hy) (hs y hy)
  have hd : (strOfNums (w0 ++ joinI ws)).data.toList = w0.map u8 ++ joinC 32 (ws.map (List.map u8)) := by
    rw [strOfNums_data, List.map_append]
    congr 1
    exact map_joinI ws
  constructor
  · show Lib.count (strOfNums (w0 ++ joinI ws)).data.toList [32] = _
    rw [hd, count_join 32 _ _ f0 fs, List.length_map]
  · have h1 := Lib.splitB_data ⟨#[32]⟩ 0 ws.length (strOfNums (w0 ++ joinI ws))
    rw [hd] at h1
    have h2 := split_join 32 (w0.map u8) (ws.map (List.map u8)) f0 fs
    rw [List.length_map] at h2
    have h3 : (Lib.splitB ⟨#[32]⟩ 0 ws.length (strOfNums (w0 ++ joinI ws))).map (·.data.toList) = ((w0 :: ws).map strOfNums).map (·.data.toList) := by
      rw [h1]
      show Lib.splitK [32] 0 ws.length _ = _
      rw [h2]
      simp [strOfNums_data]
    have inj : ∀ a b : List ByteArray, a.map (·.data.toList) = b.map (·.data.toList) → a = b := by
      intro a
      induction a with
      | nil => intro b h; cases b with | nil => rfl | cons _ _ => simp at h
      | cons x a ih =>
        intro b h
        cases b with
        | nil => simp at h
        | cons y b =>
          simp only [List.map_cons, List.cons.injEq] at h
          rw [ba_ext h.1, ih b h.2]
    exact inj _ _ h3
theorem splitA (w0 : List Int) (ws : List (List Int)) (m : Int) (w : World) (b0 : Byt w0) (bs : ∀ v ∈ ws, Byt v) (h0 : ∀ z ∈ w0, z ≠ 32) (hs : ∀ v ∈ ws, ∀ z ∈ v, z ≠ 32) (hl : (w0 ++ joinI ws).length ≤ 512) (hm : w.cell? ⟨1, 0, none⟩ = some (.int .i64 m)) :
    Calls Tryd.prog 62 #[.string (strOfNums (w0 ++ joinI ws)), .string { data := #[32] }] w fun e w' =>
      e = .returned (.slice (some ⟨w.heap.size, 0, none⟩) (ws.length + 1) (ws.length + 1)) ∧ w' = w.alloc (.cells (((w0 :: ws).map strOfNums).map Value.string).toArray 9) := by
  have h := Any.strings_Split (P := Tryd.prog) (ρ := laysSP_ren) laysSP hi9 (strOfNums (w0 ++ joinI ws)) ⟨#[32]⟩ m w (by rw [strOf_size]; omega) hm (by decide)
  obtain ⟨e1, e2⟩ := splitJ w0 ws b0 bs h0 hs
  rw [e1, e2] at h
  exact h
theorem joinI_len (ws : List (List Int)) : ws.length ≤ (joinI ws).length := by
  induction ws with
  | nil => simp [joinI]
  | cons w ws ih => simp [joinI]; omega
/-- A fresh line. -/
def lineZr (kd : Int) : Array Value := #[.int .i64 kd, .int .i64 0, .int .i64 0, .int .i64 0, .int .i64 0, .int .u32 0, .int .u64 0, .int .u32 0, .int .i64 0, .int .i64 0, .slice none 0 0, .slice none 0 0, .int .i64 0, .int .i64 0, .int .i64 0, .int .i64 0, .int .i64 0, .int .i64 0, .int .i64 0, .int .i64 0, .int .i64 0, .int .i64 0, .int .i64 0, .int .i64 0, .int .i64 0, .int .i64 0]
/-- A line that says what is as usual. -/
def lineUr (kd : Int) : Array Value := ((((((((((((lineZr kd).setIfInBounds 1 (.int .i64 (mo kd))).setIfInBounds 2 (.int .i64 0)).setIfInBounds 3 (.int .i64 1)).setIfInBounds 4 (.int .i64 1)).setIfInBounds 5 (.int .u32 0)).setIfInBounds 6 (.int .u64 0)).setIfInBounds 7 (.int .u32 0)).setIfInBounds 8 (.int .i64 0)).setIfInBounds 9 (.int .i64 0)).setIfInBounds 10 (.slice none 0 0)).setIfInBounds 11 (.slice none 0 0))
theorem lineUr_eq (kd : Int) : lineUr kd = #[.int .i64 kd, .int .i64 (mo kd), .int .i64 0, .int .i64 1, .int .i64 1, .int .u32 0, .int .u64 0, .int .u32 0, .int .i64 0, .int .i64 0, .slice none 0 0, .slice none 0 0, .int .i64 0, .int .i64 0, .int .i64 0, .int .i64 0, .int .i64 0, .int .i64 0, .int .i64 0, .int .i64 0, .int .i64 0, .int .i64 0, .int .i64 0, .int .i64 0, .int .i64 0, .int .i64 0] := by kernel_rfl
theorem lineUr_num (kd : Int) (f : Nat) (h1 : 1 ≤ f) (h9 : f ≤ 9) : (lineUr kd)[f]? = some (nk f ((usP kd).nv f)) := by
  rw [lineUr_eq]
  have : f = 1 ∨ f = 2 ∨ f = 3 ∨ f = 4 ∨ f = 5 ∨ f = 6 ∨ f = 7 ∨ f = 8 ∨ f = 9 := by omega
  rcases this with rfl | rfl | rfl | rfl | rfl | rfl | rfl | rfl | rfl <;> rfl
theorem lineU_init {w : World} {g : Nat} (kd : Int) (h : Lc w g (lineUr kd)) : Lrs w g kd (initR kd) := by
  refine ⟨_, none, none, 0, 0, h, (by rw [lineUr_eq]; rfl), fun f h1 h9 => lineUr_num kd f h1 h9, (by rw [lineUr_eq]; rfl), (by rw [lineUr_eq]; rfl), Pn_nil _ _, Pn_nil _ _, fun i hi => ?_, (by rw [lineUr_eq]; rfl), (by rw [lineUr_eq]; rfl), (by rw [lineUr_eq]; rfl)⟩
  rw [lineUr_eq]
  have : i = 0 ∨ i = 1 ∨ i = 2 ∨ i = 3 ∨ i = 4 ∨ i = 5 ∨ i = 6 ∨ i = 7 ∨ i = 8 ∨ i = 9 ∨ i = 10 := by omega
  rcases this with rfl | rfl | rfl | rfl | rfl | rfl | rfl | rfl | rfl | rfl | rfl <;> rfl
/-- What readLine tells. -/
def LinePost (w0 : List Int) (ws : List (List Int)) (w : World) (e : Ending) (w' : World) : Prop :=
  Below w.heap.size w w' ∧ ((¬ w0 = knL 1 ∧ ¬ w0 = knL 2 ∧ e = .panicked (flt 0 4)) ∨
    ∃ kd, (kd = 1 ∨ kd = 2) ∧ w0 = knL kd ∧ ((∃ a, runR (initR kd) ws 3 = .inr a ∧ e = .panicked (flt a 4)) ∨
      ∃ st g, runR (initR kd) ws 3 = .inl st ∧ st.Good ∧ e = .returned (.pointer (some ⟨g, 0, none⟩)) ∧ w.heap.size ≤ g ∧ Lrs w' g kd st))
set_option maxRecDepth 100000 in
set_option maxHeartbeats 4000000 in
theorem readLA (w0 : List Int) (ws : List (List Int)) (m : Int) (es er : Value) (w : World) (b0 : Byt w0) (bs : ∀ v ∈ ws, Byt v) (h0 : ∀ z ∈ w0, z ≠ 32) (hs : ∀ v ∈ ws, ∀ z ∈ v, z ≠ 32) (hl : (w0 ++ joinI ws).length ≤ 512) (hw : Rw w m es er) :
    Calls Tryd.prog 30 #[.string (strOfNums (w0 ++ joinI ws))] w (LinePost w0 ws w) := by
  have hSP := splitA w0 ws m w b0 bs h0 hs hl (hw.mx _ (Below.refl _ _))
  have HSP := TW.hide hSP
  clear hSP
  have hfirst : (((((w0 :: ws).map strOfNums).map Value.string).toArray)[0]?) = some (.string (strOfNums w0)) := by simp
  have hlater : ∀ i v, ws[i]? = some v → (((((w0 :: ws).map strOfNums).map Value.string).toArray)[1 + i]?) = some (.string (strOfNums v)) := fun i v h => by
    rw [Nat.add_comm]; simp [h]
  generalize hcw : (((w0 :: ws).map strOfNums).map Value.string).toArray = cw at *
  have HF := TW.hide hfirst
  have HLT := TW.hide hlater
  clear hfirst hlater hcw
  by_cases hkd : ∃ kd, (kd = 1 ∨ kd = 2) ∧ w0 = knL kd
  rotate_left
  · have n1 : ¬ w0 = knL 1 := fun h => hkd ⟨1, .inl rfl, h⟩
    have n2 : ¬ w0 = knL 2 := fun h => hkd ⟨2, .inr rfl, h⟩
    have HK1 := TW.hide (fun W => readKNo w0 b0 n1 n2 W)
    have HN1 := TW.hide n1
    have HN2 := TW.hide n2
    clear b0 bs h0 hs hl hw n1 n2 hkd HLT
    generalize strOfNums (w0 ++ joinI ws) = line at *
    generalize strOfNums w0 = kn at *
    go_enter Tryd.func30, Tryd.ntmps30
    refine wp_seq_k fun KK hK => ?_
    have HK := TW.hide hK
    clear hK
    go_wp2
    refine HK.out _ _ ?_
    clear HK KK
    refine wp_seq_k fun KK hK => ?_
    have HK := TW.hide hK
    clear hK
    go_wp2_with fail
    refine HSP.out.mono ?_
    rintro e w1 ⟨rfl, rfl⟩
    have W1 := TW.hide (heap_alloc_new w (.cells cw 9))
    have B1 : Hid (Below w.heap.size w (w.alloc (.cells cw 9))) := (Below.refl _ _).alloc (Nat.le_refl _) _
    generalize w.alloc (.cells cw 9) = X1 at *
    go_wp2_with fail
    refine HK.out _ _ ?_
    clear HK KK
    have cf : X1.cell? ⟨w.heap.size, 0, none⟩ = some (.string kn) := blk_cell W1.out HF.out
    have hN : (0 : Int) < ((ws.length : Int) + 1) := by omega
    generalize hwb : w.heap.size = wb at *
    go_wp2_with fail
    refine (HK1.out _).mono ?_
    rintro e w2 ⟨rfl, rfl⟩
    go_wp2_with fail
    exact ⟨rfl, hwb ▸ B1.out, .inl ⟨HN1.out, HN2.out, rfl⟩⟩
  obtain ⟨kd, hk, hkn⟩ := hkd
  have hlw := hl
  rw [List.length_append] at hlw
  have hk2 : w0.length = 2 := by rw [hkn]; rcases hk with rfl | rfl <;> rfl
  have HKN := TW.hide hkn
  have HK1 : Hid (∀ W : World, Calls Tryd.prog 63 #[.string (strOfNums w0)] W fun e w' => e = .returned (.int .i64 kd) ∧ W = w') := fun W => by rw [hkn]; exact readK kd hk W
  have HU : Hid (∀ W : World, Calls Tryd.prog 20 #[.int .i64 kd] W fun e w' => e = .returned (.agg #[.int .i64 (mo kd), .int .i64 0, .int .i64 1, .int .i64 1, .int .u32 0, .int .u64 0, .int .u32 0, .int .i64 0, .int .i64 0, .slice none 0 0, .slice none 0 0]) ∧ Below W.heap.size W w') := fun W => unsaid kd hk W
  have hksz : (strOfNums w0).size = 2 := by rw [strOf_size]; exact hk2
  have HJL : Hid (2 + (joinI ws).length ≤ 512) := by show _ ≤ _; omega
  have HBS := TW.hide bs
  have HRW := TW.hide hw
  have HKK2 := TW.hide hk
  clear b0 h0 hs hl hlw hk2 hkn bs hw hk
  generalize strOfNums (w0 ++ joinI ws) = line at *
  generalize strOfNums w0 = kn at *
  go_enter Tryd.func30, Tryd.ntmps30
  refine wp_seq_k fun KK hK => ?_
  have HK := TW.hide hK
  clear hK
  go_wp2
  refine HK.out _ _ ?_
  clear HK KK
  refine wp_seq_k fun KK hK => ?_
  have HK := TW.hide hK
  clear hK
  go_wp2_with fail
  refine HSP.out.mono ?_
  rintro e w1 ⟨rfl, rfl⟩
  have W1 := TW.hide (heap_alloc_new w (.cells cw 9))
  have B1 : Hid (Below w.heap.size w (w.alloc (.cells cw 9))) := (Below.refl _ _).alloc (Nat.le_refl _) _
  have hs1 : (w.alloc (.cells cw 9)).heap.size = w.heap.size + 1 := by simp
  generalize w.alloc (.cells cw 9) = X1 at *
  generalize hwb : w.heap.size = wb at *
  go_wp2_with fail
  refine HK.out _ _ ?_
  clear HK KK
  have cf : X1.cell? ⟨wb, 0, none⟩ = some (.string kn) := blk_cell W1.out HF.out
  have hN : (0 : Int) < ((ws.length : Int) + 1) := by omega
  refine wp_seq_k fun KK hK => ?_
  have HK := TW.hide hK
  clear hK
  go_wp2_with fail
  refine (HK1.out _).mono ?_
  rintro e w2 ⟨rfl, rfl⟩
  go_wp2_with fail
  refine HK.out _ _ ?_
  clear HK KK
  have L2 : Hid (Lc (X1.alloc (.cells (lineZr kd) 80)) (wb + 1) (lineZr kd)) := ⟨by have := heap_alloc_new X1 (.cells (lineZr kd) 80); rw [hs1] at this; exact this, rfl⟩
  have W2 := TW.hide (blk_alloc (o' := .cells (lineZr kd) 80) W1.out)
  have B2 : Hid (Below wb w (X1.alloc (.cells (lineZr kd) 80))) := B1.out.alloc (by omega) _
  unfold lineZr at L2 W2 B2
  generalize X1.alloc _ = X2 at *
  generalize hgg : wb + 1 = g at *
  clear B1 W1 cf HSP
  have c0 : X2.cell? ⟨g, 0, none⟩ = some (.int .i64 kd) := L2.out.cell rfl
  refine wp_seq_k fun KK hK => ?_
  have HK := TW.hide hK
  clear hK
  go_wp2_with fail
  refine (HU.out _).mono ?_
  rintro e w3 ⟨rfl, hb⟩
  have L3 := TW.hide (L2.out.below hb)
  have W3 := TW.hide (blk_keep W2.out hb)
  have B3 : Hid (Below wb w w3) := below_row B2.out hb (by have := blk_lt W2.out; omega)
  clear hb L2 W2 B2 c0
  obtain ⟨v1, c1⟩ := L3.out.has 1 (by omega)
  obtain ⟨v2, c2⟩ := L3.out.has 2 (by omega)
  obtain ⟨v3, c3⟩ := L3.out.has 3 (by omega)
  obtain ⟨v4, c4⟩ := L3.out.has 4 (by omega)
  obtain ⟨v5, c5⟩ := L3.out.has 5 (by omega)
  obtain ⟨v6, c6⟩ := L3.out.has 6 (by omega)
  obtain ⟨v7, c7⟩ := L3.out.has 7 (by omega)
  obtain ⟨v8, c8⟩ := L3.out.has 8 (by omega)
  obtain ⟨v9, c9⟩ := L3.out.has 9 (by omega)
  obtain ⟨v10, c10⟩ := L3.out.has 10 (by omega)
  obtain ⟨v11, c11⟩ := L3.out.has 11 (by omega)
  have f1 := L3.out.free 1
  have f2 := L3.out.free 2
  have f3 := L3.out.free 3
  have f4 := L3.out.free 4
  have f5 := L3.out.free 5
  have f6 := L3.out.free 6
  have f7 := L3.out.free 7
  have f8 := L3.out.free 8
  have f9 := L3.out.free 9
  have f10 := L3.out.free 10
  have f11 := L3.out.free 11
  go_wp2_with fail
  refine HK.out _ _ ?_
  clear HK KK
  clear c1 c2 c3 c4 c5 c6 c7 c8 c9 c10 c11 f1 f2 f3 f4 f5 f6 f7 f8 f9 f10 f11
  have hgw : wb ≤ g := by omega
  have L4 : Hid (Lc (((((((((((w3.setCell ⟨g, 1, none⟩ (.int .i64 (mo kd))).setCell ⟨g, 2, none⟩ (.int .i64 0)).setCell ⟨g, 3, none⟩ (.int .i64 1)).setCell ⟨g, 4, none⟩ (.int .i64 1)).setCell ⟨g, 5, none⟩ (.int .u32 0)).setCell ⟨g, 6, none⟩ (.int .u64 0)).setCell ⟨g, 7, none⟩ (.int .u32 0)).setCell ⟨g, 8, none⟩ (.int .i64 0)).setCell ⟨g, 9, none⟩ (.int .i64 0)).setCell ⟨g, 10, none⟩ (.slice none 0 0)).setCell ⟨g, 11, none⟩ (.slice none 0 0)) g (lineUr kd)) := (((((((((((L3.out.set 1 (.int .i64 (mo kd))).set 2 (.int .i64 0)).set 3 (.int .i64 1)).set 4 (.int .i64 1)).set 5 (.int .u32 0)).set 6 (.int .u64 0)).set 7 (.int .u32 0)).set 8 (.int .i64 0)).set 9 (.int .i64 0)).set 10 (.slice none 0 0)).set 11 (.slice none 0 0))
  have W4 : Hid ((((((((((((w3.setCell ⟨g, 1, none⟩ (.int .i64 (mo kd))).setCell ⟨g, 2, none⟩ (.int .i64 0)).setCell ⟨g, 3, none⟩ (.int .i64 1)).setCell ⟨g, 4, none⟩ (.int .i64 1)).setCell ⟨g, 5, none⟩ (.int .u32 0)).setCell ⟨g, 6, none⟩ (.int .u64 0)).setCell ⟨g, 7, none⟩ (.int .u32 0)).setCell ⟨g, 8, none⟩ (.int .i64 0)).setCell ⟨g, 9, none⟩ (.int .i64 0)).setCell ⟨g, 10, none⟩ (.slice none 0 0)).setCell ⟨g, 11, none⟩ (.slice none 0 0)).heap[wb]? = some (.cells cw 9 (0, 0))) := by
    show _ = _
    have hne : wb ≠ g := by omega
    exact (blk_other (blk_other (blk_other (blk_other (blk_other (blk_other (blk_other (blk_other (blk_other (blk_other (blk_other W3.out hne) hne) hne) hne) hne) hne) hne) hne) hne) hne) hne)
  have B4 : Hid (Below wb w (((((((((((w3.setCell ⟨g, 1, none⟩ (.int .i64 (mo kd))).setCell ⟨g, 2, none⟩ (.int .i64 0)).setCell ⟨g, 3, none⟩ (.int .i64 1)).setCell ⟨g, 4, none⟩ (.int .i64 1)).setCell ⟨g, 5, none⟩ (.int .u32 0)).setCell ⟨g, 6, none⟩ (.int .u64 0)).setCell ⟨g, 7, none⟩ (.int .u32 0)).setCell ⟨g, 8, none⟩ (.int .i64 0)).setCell ⟨g, 9, none⟩ (.int .i64 0)).setCell ⟨g, 10, none⟩ (.slice none 0 0)).setCell ⟨g, 11, none⟩ (.slice none 0 0))) := (((((((((((B3.out.setCell hgw _).setCell hgw _).setCell hgw _).setCell hgw _).setCell hgw _).setCell hgw _).setCell hgw _).setCell hgw _).setCell hgw _).setCell hgw _).setCell hgw _)
  generalize (((((((((((w3.setCell ⟨g, 1, none⟩ (.int .i64 (mo kd))).setCell ⟨g, 2, none⟩ (.int .i64 0)).setCell ⟨g, 3, none⟩ (.int .i64 1)).setCell ⟨g, 4, none⟩ (.int .i64 1)).setCell ⟨g, 5, none⟩ (.int .u32 0)).setCell ⟨g, 6, none⟩ (.int .u64 0)).setCell ⟨g, 7, none⟩ (.int .u32 0)).setCell ⟨g, 8, none⟩ (.int .i64 0)).setCell ⟨g, 9, none⟩ (.int .i64 0)).setCell ⟨g, 10, none⟩ (.slice none 0 0)).setCell ⟨g, 11, none⟩ (.slice none 0 0)) = X at L4 W4 B4 ⊢
  have G4 := TW.hide (lineU_init kd L4.out)
  clear L4 L3 W3 B3
  have cf : X.cell? ⟨wb, 0, none⟩ = some (.string kn) := blk_cell W4.out HF.out
  have hkI : ((kn.size : Nat) : Int) = 2 := by omega
  generalize hNN : ws.length = N at *
  have HNN := TW.hide hNN
  clear hNN
  refine wp_seq_k fun KK hK => ?_
  have HK := TW.hide hK
  clear hK
  go_wp2_with fail
  refine HK.out _ _ ?_
  clear HK KK
  have h1N : (1 : Int) ≤ (N : Int) + 1 := by omega
  have GX : Hid (Lrs X g kd (initR kd) ∧ X.heap[wb]? = some (.cells cw 9 (0, 0)) ∧ Below wb w X) := ⟨G4.out, W4.out, B4.out⟩
  clear G4 W4 B4 cf HK1 HU HF hksz hkI
  have hN11 : N ≤ 512 := by have h1 := joinI_len ws; have h2 := HJL.out; rw [HNN.out] at h1; omega
  have hgI : wb ≤ g := by omega
  have HWB2 := TW.hide hwb
  by_cases hN0 : N = 0
  · have hws : ws = [] := List.length_eq_zero_iff.1 (HNN.out.trans hN0)
    have HWS := TW.hide hws
    clear hws
    subst hN0
    clear hN
    go_wp2_with fail
    go_loopw [32] (fun i wr => i = .int .i64 0 ∧ wr = X) (fun _ _ => 0)
    case atStart => exact ⟨rfl, rfl⟩
    case round =>
      obtain ⟨rfl, rfl⟩ := hrel
      go_wp2_with fail
      go_ret
      refine ⟨HWB2.out ▸ GX.out.2.2, .inr ⟨kd, HKK2.out, HKN.out, .inr ⟨initR kd, g, ?_, initR_good kd, rfl, HWB2.out ▸ hgI, GX.out.1⟩⟩⟩
      rw [HWS.out]; rfl
  · have hNz : ¬ N = 0 := hN0
    have hNp : (0 : Int) < (N : Int) := by omega
    have HRF := TW.hide (fun st hst wd hb hl at_ cs a1 a2 c1 c2 W h hw => readFS g kd st hst wd hb hl at_ m es er cs a1 a2 c1 c2 W h hw)
    clear hN
    go_wp2_with fail
    go_loopw [5, 32] (fun a i wr => ∃ (n : Nat) (st : Rs) (at_ : Int), n ≤ N ∧ Hid st.Good ∧ Hid (runR st (ws.drop n) at_ = runR (initR kd) ws 3) ∧ 0 ≤ at_ ∧ at_ + ((joinI (ws.drop n)).length : Int) ≤ 513 ∧ a = .int .i64 at_ ∧ i = .int .i64 n ∧ Hid (Lrs wr g kd st) ∧ Hid (wr.heap[wb]? = some (.cells cw 9 (0, 0))) ∧ Hid (Below wb w wr)) (fun a i _ => N - (intOf i).toNat)
    case atStart => exact ⟨0, initR kd, 3, Nat.zero_le _, initR_good kd, rfl, by omega, by have := HJL.out; rw [List.drop_zero]; omega, rfl, rfl, GX.out.1, GX.out.2.1, GX.out.2.2⟩
    case round =>
      obtain ⟨n, st, at_, hn, HGO, HRR, ha0, ha1, rfl, rfl, HG, HWB, HBB⟩ := hrel
      clear GX
      by_cases hlt : n < N
      · obtain ⟨wd, hget⟩ : ∃ wd, ws[n]? = some wd := ⟨ws[n]'(by rw [HNN.out]; exact hlt), List.getElem?_eq_getElem _⟩
        have hdrop : ws.drop n = wd :: ws.drop (n + 1) := by
          obtain ⟨hh, rfl⟩ := List.getElem?_eq_some_iff.1 hget
          exact List.drop_eq_getElem_cons hh
        have hbd : Byt wd := HBS.out wd (List.mem_of_getElem? hget)
        rw [hdrop] at ha1
        simp only [joinI, List.length_cons, List.length_append] at ha1
        have hle : wd.length ≤ 512 := by omega
        obtain ⟨cs, a1, a2, c1, c2, hg⟩ := HG.out
        have hgl := hg.lc.lt
        have hrw : Rw wr m es er := by
          have hb := HBB.out
          exact HRW.out.below (by rw [HWB2.out]; exact hb)
        have HC := TW.hide (HRF.out st HGO.out wd hbd hle at_ cs a1 a2 c1 c2 wr hg hrw)
        have cn : wr.cell? ⟨wb, 1 + n, none⟩ = some (.string (strOfNums wd)) := blk_cell HWB.out (HLT.out n _ hget)
        have HDR := TW.hide hdrop
        have hsz : (((strOfNums wd).size : Nat) : Int) = (wd.length : Int) := by rw [strOf_size]
        have hwl0 : (0 : Int) ≤ (wd.length : Int) := by omega
        have hwl1 : (wd.length : Int) ≤ 512 := by omega
        have HA1 := TW.hide ha1
        have ha2 : at_ ≤ 513 := by omega
        clear hg hgl hrw hdrop hget hbd hle HG ha1
        generalize hwdl : (wd.length : Int) = wl at *
        generalize strOfNums wd = sw at *
        have HWL := TW.hide hwdl
        clear hwdl
        have hn0 : (0 : Int) ≤ n := by omega
        have hn1 : (n : Int) < N := by omega
        have wr1 : IntKind.i64.wrap (wl + 1) = wl + 1 := by rw [IntKind.wrap_i64]; omega
        have wr2 : IntKind.i64.wrap (at_ + (wl + 1)) = at_ + (wl + 1) := by rw [IntKind.wrap_i64]; omega
        go_wp2_with fail
        refine HC.out.mono ?_
        rintro e w5 ⟨hbut, ⟨hst, rfl⟩ | ⟨st', hst, hgo, rfl, hl5⟩⟩
        · have B5 : Hid (Below wb w w5) := HBB.out.trans (hbut.below (by have := blk_lt HWB.out; omega) hgw)
          have HRE : Hid (runR (initR kd) ws 3 = .inr at_) := by
            show _ = _
            rw [← HRR.out, HDR.out, runR, hst]
          clear hst hbut
          go_wp2_with fail
          exact ⟨rfl, HWB2.out ▸ B5.out, .inr ⟨kd, HKK2.out, HKN.out, .inl ⟨at_, HRE.out, rfl⟩⟩⟩
        · have L5 := TW.hide hl5
          have G5 := TW.hide hgo
          have W5 : Hid (w5.heap[wb]? = some (.cells cw 9 (0, 0))) := hbut.blk HWB.out (by omega)
          have B5 : Hid (Below wb w w5) := HBB.out.trans (hbut.below (by have := blk_lt HWB.out; omega) hgw)
          have HR5 : Hid (runR st' (ws.drop (n + 1)) (at_ + (wl + 1)) = runR (initR kd) ws 3) := by
            show _ = _
            rw [← HRR.out, HDR.out, runR, hst]
            simp only [HWL.out]
          clear hl5 hbut hgo hst HC
          go_wp2_with fail
          go_roundw
          case rel => exact ⟨n + 1, st', at_ + (wl + 1), by omega, G5.out, HR5.out, by omega, by have h1 := HA1.out; have h2 := HWL.out; omega, by first | rfl | (rw [wr2]) | go_num, by go_num, L5.out, W5.out, B5.out⟩
          case measure => simp [intOf]; omega
      · obtain rfl : n = N := by omega
        have HRE : Hid (runR (initR kd) ws 3 = .inl st) := by
          show _ = _
          rw [← HRR.out, List.drop_of_length_le (by rw [HNN.out]; omega), runR]
        go_wp2_with fail
        go_ret
        exact ⟨HWB2.out ▸ HBB.out, .inr ⟨kd, HKK2.out, HKN.out, .inr ⟨st, g, HRE.out, HGO.out, rfl, HWB2.out ▸ hgI, HG.out⟩⟩⟩
end LW
end Go.Proofs.YteakoajkmcbilabDoor
