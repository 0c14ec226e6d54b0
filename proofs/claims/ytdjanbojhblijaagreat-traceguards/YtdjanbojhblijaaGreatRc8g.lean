/-
 The search for races.
-/
import Derived.Test.YtdjanbojhblijaaGreatRc6g
import Derived.Test.YtdjanbojhblijaaGreatCrAg
namespace Go.Proofs.YtdjanbojhblijaaGreat
open Go.RowKit
set_option linter.unusedVariables false
set_option linter.unusedSimpArgs false
namespace LW
open Mc
set_option maxRecDepth 100000 in
set_option maxHeartbeats 40000000 in
theorem praces (s : Syst) (pa : Option Addr) (pc : Nat) (ra : Option Addr) (rc : Nat) (la : Option Addr) (lc : Nat) (l : List Ev) (most : Nat) (w : World) (hmo : most ≤ 1000000) (hs : SyI w s pa ra) (hl : EvI w la lc l) (ho : Ok s) (hg : Tr.Gd s l l.length) (hL : l.length ≤ 40000) :
  Calls Tryz.prog 10 #[.agg #[.slice pa s.progs.length pc, .slice ra s.rooms.length rc, .int .i64 s.groups, .int .i64 s.locks, .int .i64 s.cells, .slice la l.length lc, .int .i64 (Tr.rnC l : Int)], .int .i64 (most : Int)] w (fun e w' => ∃ v es, e = .returned v ∧ w'.ownsRow w.heap.size 33 2 v es.length (edC es) ∧ es.length ≤ most ∧ (∀ x ∈ es, RcP s l x) ∧ Below w.heap.size w w') := by
 obtain ⟨POST, hP⟩ : ∃ P : Ending → World → Prop, P = fun e w' => ∃ v es, e = .returned v ∧ w'.ownsRow w.heap.size 33 2 v es.length (edC es) ∧ es.length ≤ most ∧ (∀ x ∈ es, RcP s l x) ∧ Below w.heap.size w w' := ⟨_, rfl⟩
 have HPo : Hid (∀ v es w', w'.ownsRow w.heap.size 33 2 v es.length (edC es) → es.length ≤ most → (∀ x ∈ es, RcP s l x) → Below w.heap.size w w' → POST (.returned v) w') := fun v es w' q1 q0 q2 q3 => by rw [hP]; exact ⟨v, es, rfl, q1, q0, q2, q3⟩
 rw [← hP]
 clear hP
 have HLk : Hid (∀ W, Below w.heap.size w W → Calls Tryz.prog 18 #[.agg #[.slice pa s.progs.length pc, .slice ra s.rooms.length rc, .int .i64 s.groups, .int .i64 s.locks, .int .i64 s.cells, .slice la l.length lc, .int .i64 (Tr.rnC l : Int)]] W (LnQ W s l)) := fun W hW => plinks s pa pc ra rc la lc l W (hs.below hW) (hl.below hW) ho hg hL
 obtain ⟨C, hC⟩ : ∃ C : Nat, s.cells = (C : Int) := ⟨s.cells.toNat, by have := ho.c1; omega⟩
 have hC6 : C ≤ 1000000 := by have := ho.c1; omega
 have HRw : Hid (∀ (f M : Nat) (ea : Option Addr) (ec : Nat) (ed : List Eg2) (W : World), M ≤ 1000000 → f ≤ 1000000 → Below w.heap.size w W → EgR W ea ec ed → Ord ed → (∀ x, x ∈ ed ↔ x ∈ Tr.edF s l l.length) → Calls Tryz.prog 19 #[.agg #[.slice pa s.progs.length pc, .slice ra s.rooms.length rc, .int .i64 s.groups, .int .i64 s.locks, .int .i64 s.cells, .slice la l.length lc, .int .i64 (Tr.rnC l : Int)], .slice ea ed.length ec, .agg #[.int .i64 (f : Int), .int .i64 (M : Int)], .int .i64 (most : Int)] W (fun e w' => ∃ v es, e = .returned v ∧ w'.ownsRow W.heap.size 33 2 v es.length (edC es) ∧ es.length ≤ most ∧ (∀ x ∈ es, RcP s l x) ∧ Below W.heap.size W w')) := fun f M ea ec ed W hM hf hW he hO hE => pracesWith s pa pc ra rc la lc l C M f most ea ec ed W hC hC6 hM hf hmo (hl.below hW) ho hg hL he hO hE
 have HRn : Hid (Tr.rnC l ≤ 512) := by
  have h := Tr.rnC_le l.length (Nat.le_refl _) hg
  rw [List.take_length] at h
  exact h
 have hL2 := hL
 clear hs hl ho hg hC hC6
 obtain ⟨ir, hir, hzr0, hzr1, hzr2⟩ := info_parts' rcinfo
 have hA : Below w.heap.size w (w.alloc (.cells #[.slice pa s.progs.length pc, .slice ra s.rooms.length rc, .int .i64 s.groups, .int .i64 s.locks, .int .i64 s.cells, .slice la l.length lc, .int .i64 (Tr.rnC l : Int)] 43)) := (Below.refl _ _).alloc (Nat.le_refl _) _
 have N1 : Hid ((w.alloc (.cells #[.slice pa s.progs.length pc, .slice ra s.rooms.length rc, .int .i64 s.groups, .int .i64 s.locks, .int .i64 s.cells, .slice la l.length lc, .int .i64 (Tr.rnC l : Int)] 43)).heap[w.heap.size]? = some (.cells #[.slice pa s.progs.length pc, .slice ra s.rooms.length rc, .int .i64 s.groups, .int .i64 s.locks, .int .i64 s.cells, .slice la l.length lc, .int .i64 (Tr.rnC l : Int)] 43 (0, 0))) := heap_alloc_new w _
 have NB := TW.hide hA
 clear hA
 go_enter Tryz.func10, Tryz.ntmps10
 refine wp_seq_k fun K hK => ?_
 have HK := TW.hide hK
 clear hK
 go_wp2
 refine HK.out _ _ ?_
 clear HK K
 generalize w.alloc _ = X at *
 refine wp_seq_k fun Ka hKa => ?_
 have HKa := TW.hide hKa
 clear hKa
 go_wp2
 refine HKa.out _ _ ?_
 clear HKa
 obtain ⟨z0, z1, z2, z3, z4, z5, z6⟩ := cellsY7 N1.out
 refine wp_seq_k fun Kb hKb => ?_
 have HKb := TW.hide hKb
 clear hKb
 go_wp2_with fail
 refine (HLk.out X NB.out).mono ?_
 rintro e1 W1 ⟨v1, ed, rfl, hown, hO, hE, hb⟩
 obtain ⟨ea, ec, e2, he⟩ := EgR.of hown
 subst e2
 have N11 := TW.hide (blk_keep N1.out hb)
 have NB1 : Hid (Below w.heap.size w W1) := NB.out.trans (hb.mono NB.out.size)
 have HEd := TW.hide he
 have HOd := TW.hide hO
 have HEs := TW.hide hE
 clear z0 z1 z2 z3 z4 z5 z6 N1 NB hb hown he hO hE HLk
 go_wp2
 refine HKb.out _ _ ?_
 clear HKb
 obtain ⟨z0, z1, z2, z3, z4, z5, z6⟩ := cellsY7 N11.out
 obtain ⟨mx, hmx⟩ : ∃ mx : Nat, max 1 l.length = mx := ⟨_, rfl⟩
 have kmx : max (1 : Int) (l.length : Int) = (mx : Int) := by omega
 have hmx1 : 1 ≤ mx ∧ mx ≤ 40000 := by omega
 obtain ⟨mn, hmn⟩ : ∃ mn : Nat, 1048576 / mx = mn := ⟨_, rfl⟩
 have hmn1 : 1 ≤ mn ∧ mn ≤ 1048576 := by
  rw [← hmn]
  exact ⟨(Nat.le_div_iff_mul_le (by omega)).2 (by omega), Nat.div_le_self _ _⟩
 have kq : Int.tdiv 1048576 (mx : Int) = (mn : Int) := by rw [← hmn]; rfl
 have kw : IntKind.i64.wrap (mn : Int) = (mn : Int) := by rw [IntKind.wrap_i64]; omega
 have kz : ((mx : Int) == 0) = false := by simp; omega
 have kz2 : ¬ (mx : Int) = 0 := by omega
 have kz3 : ¬ mx = 0 := by omega
 refine wp_seq_k fun Kc hKc => ?_
 have HKc := TW.hide hKc
 clear hKc
 go_wp2
 refine HKc.out _ _ ?_
 clear HKc
 refine wp_seq_k fun Kd hKd => ?_
 have HKd := TW.hide hKd
 clear hKd
 clear hmx kmx hmx1 hmn kq kw kz kz2 kz3 z0 z1 z2 z3 z4 z5 z6
 have HO0 : Hid (W1.ownsRow W1.heap.size 33 2 (.slice none 0 0) ([] : List (Int × Int)).length (edC [])) := ⟨rfl, .inl ⟨rfl, rfl⟩⟩
 have HB0 : Hid (Below W1.heap.size W1 W1) := Below.refl _ _
 go_wp2
 go_loopw [5, 8] (fun lv fv wr => ∃ (f r : Nat) (va : Option Addr) (vc : Nat) (es : List (Int × Int)), fv = .int .i64 (f : Int) ∧ lv = .slice va es.length vc ∧ r ≤ f ∧ r ≤ 513 ∧ f ≤ 2000000 ∧ es.length ≤ 1000000 * r ∧ Hid (wr.ownsRow W1.heap.size 33 2 (.slice va es.length vc) es.length (edC es)) ∧ Hid (∀ x ∈ es, RcP s l x) ∧ Hid (Below W1.heap.size W1 wr)) (fun lv fv wr => Tr.rnC l - (intOf fv).toNat)
 case atStart => exact ⟨0, 0, none, 0, [], rfl, rfl, Nat.le_refl _, by omega, by omega, Nat.zero_le _, HO0, TW.hide (fun x hx => by cases hx), HB0⟩
 case round =>
  clear HO0 HB0
  obtain ⟨f, r, va, vc, es, rfl, rfl, hrf, hr5, hf2, hes, HO, HRc, HB⟩ := hrel
  obtain ⟨wo, rfl⟩ : ∃ x, x = wr := ⟨_, rfl⟩
  obtain ⟨z0, z1, z2, z3, z4, z5, z6⟩ := cellsY7 (blk_keep N11.out HB.out)
  have hrn := HRn.out
  by_cases hlt : f < Tr.rnC l
  ·have q1 : (f : Int) < (Tr.rnC l : Int) := by omega
   obtain ⟨dd, hdd⟩ : ∃ dd : Nat, Tr.rnC l - f = dd := ⟨_, rfl⟩
   have kd : (Tr.rnC l : Int) - (f : Int) = (dd : Int) := by omega
   have kdw : IntKind.i64.wrap (dd : Int) = (dd : Int) := by rw [IntKind.wrap_i64]; omega
   obtain ⟨md, hmd⟩ : ∃ md, min mn dd = md := ⟨_, rfl⟩
   have kmd : min (mn : Int) (dd : Int) = (md : Int) := by omega
   have kfw : IntKind.i64.wrap ((f : Int) + (mn : Int)) = ((f + mn : Nat) : Int) := by rw [IntKind.wrap_i64]; omega
   have HRw2 := TW.hide (HRw.out f md ea ec ed wo (by omega) (by omega) (NB1.out.trans (HB.out.mono NB1.out.size)) (HEd.out.below HB.out) HOd.out HEs.out)
   have HFl := TW.hide hlt
   refine wp_seq_k fun Ke hKe => ?_
   have HKe := TW.hide hKe
   clear hKe
   refine wp_seq_k fun Kf hKf => ?_
   have HKf := TW.hide hKf
   clear hKf
   go_wp2
   refine HKf.out _ _ ?_
   clear HKf
   go_wp2
   refine HKe.out _ _ ?_
   clear HKe
   refine wp_seq_k fun Kg hKg => ?_
   have HKg := TW.hide hKg
   clear hKg
   refine wp_block ?_
   go_wp2_with fail
   refine HRw2.out.mono ?_
   rintro e1 W2 ⟨v2, es2, rfl, ho2, hl2, hr2, hb2⟩
   obtain ⟨a2, c2, e2⟩ := own_openE ho2
   subst e2
   have HO1 := TW.hide (own_belowI HO.out hb2)
   have HO2 := TW.hide ho2
   have HSz : Hid (W1.heap.size ≤ W2.heap.size) := (HB.out.trans (hb2.mono HB.out.size)).size
   have HF5 : Hid (∀ (v5 : Value) (w5 : World), w5.ownsRow W1.heap.size 33 2 v5 (es.length + es2.length) (edC es ++ edC es2) → W2.grownBy w5 (Value.slice va es.length vc).ownBlock → ∃ a5 c5 es3, v5 = .slice a5 es3.length c5 ∧ w5.ownsRow W1.heap.size 33 2 (.slice a5 es3.length c5) es3.length (edC es3) ∧ (∀ x ∈ es3, RcP s l x) ∧ es3.length ≤ 1000000 * (r + 1) ∧ Below W1.heap.size W1 w5) := fun v5 w5 h1 h2 => by
    obtain ⟨a5, c5, e5⟩ := own_openE h1
    have hl3 : es.length + es2.length = (es ++ es2).length := by rw [List.length_append]
    rw [← edC_app, hl3] at h1
    rw [hl3] at e5
    have hbx : Below W1.heap.size W1 W2 := HB.out.trans (hb2.mono HB.out.size)
    refine ⟨a5, c5, es ++ es2, e5, by rw [← e5]; exact h1, fun x hx => ?_, by rw [← hl3]; omega, hbx.grown h2 hbx.size (fun q hq => own_blkI HO1.out q hq)⟩
    rcases List.mem_append.1 hx with h | h
    ·exact HRc.out x h
    ·exact hr2 x h
   clear ho2 hr2 hb2 HO HRc HB HRw2 z0 z1 z2 z3 z4 z5 z6
   go_wp2_with (at_builtin; refine wpList_plain rfl (fun Kp hKp => ?_); refine wp_append_rows _ _ 28 (by rfl) W1.heap.size _ 33 ir (.agg #[.int .i64 0, .int .i64 0]) 2 16 Tryz.underlying28 hir hzr0 hzr1 hzr2 rfl (by decide) _ _ _ _ _ _ (by rfl) HO1.out (by rfl) HO2.out (edC_one _) (by unfold maxLen; omega) (by omega) HSz.out ?_; (intro v5 w5 h51 h52); obtain ⟨a5, c5, es3, rfl, p1, p2, p3, p4⟩ := HF5.out v5 w5 h51 h52; have HO5 := TW.hide p1; have HRc5 := TW.hide p2; have HLe5 := TW.hide p3; have HB5 := TW.hide p4; clear h51 h52 p1 p2 p3 p4 HF5 HO1 HO2 HSz; refine hKp _ _ ?_; clear hKp)
   go_wp2
   refine HKg.out _ _ ?_
   go_wp2
   go_roundw
   case rel => exact ⟨f + mn, r + 1, a5, c5, es3, by go_num, rfl, by omega, by omega, by omega, HLe5.out, HO5, HRc5, HB5⟩
   case measure => simp [intOf]; have := HFl.out; omega
  ·have q1 : ¬ (f : Int) < (Tr.rnC l : Int) := by omega
   have HSo := TW.hide (psortRace W1.heap.size va vc es wo HO.out (by omega))
   have hes5 : es.length ≤ 600000000 := by omega
   obtain ⟨mt, hmt⟩ : ∃ mt, min most es.length = mt := ⟨_, rfl⟩
   have qmt : min (most : Int) (es.length : Int) = (mt : Int) := by omega
   have hmt1 : mt ≤ es.length := by omega
   have hmt2 : mt ≤ most := by omega
   have hvc : es.length ≤ vc := by
    rcases HO.out.2 with ⟨e, h0⟩ | ⟨g, c2, cur, e, _, _, h3, _⟩
    ·omega
    ·injection e with _ _ e3
     omega
   have qn0 : (0 : Int) ≤ (mt : Int) := by omega
   have qn1 : (mt : Int) ≤ (vc : Int) := by omega
   have HRp : Hid (∀ W3 (es' : List (Int × Int)), es'.length = es.length → (∀ x, x ∈ es' ↔ x ∈ es) → W3.ownsRow W1.heap.size 33 2 (.slice va es'.length vc) es'.length (edC es') → Below W1.heap.size wo W3 → POST (.returned (.slice va mt vc)) W3) := fun W3 es' h1 h2 h3 h4 => by
    have hml : (es'.take mt).length = mt := by rw [List.length_take]; omega
    refine HPo.out (.slice va mt vc) (es'.take mt) W3 ?_ (by rw [hml]; exact hmt2) (fun x hx => HRc.out x ((h2 x).1 (List.mem_of_mem_take hx))) (NB1.out.trans ((HB.out.trans h4).mono NB1.out.size))
    rw [hml, ← edC_take]
    exact own_baseL (own_pre h3 (by omega)) NB1.out.size
   have HNil : Hid (va = none → es.length = 0 ∧ vc = 0) := fun h => by
    rcases HO.out.2 with ⟨e, h0⟩ | ⟨g, c2, cur, e, _⟩
    ·injection e with _ _ e3
     exact ⟨h0, e3⟩
    ·rw [h] at e; cases e
   clear HO HRc HB hlt hmt
   go_wp2
   clear z0 z1 z2 z3 z4 z5 z6
   refine HKd.out _ _ ?_
   clear HKd
   refine wp_seq_k fun Kh hKh => ?_
   have HKh := TW.hide hKh
   clear hKh
   go_wp2_with fail
   refine HSo.out.mono ?_
   rintro e3 W3 ⟨rfl, es', h1, h2, h3, h4⟩
   have HR := TW.hide (HRp.out W3 es' h1 h2 h3 h4)
   clear h1 h2 h3 h4 HSo HRp
   rcases va with _ | va
   ·obtain ⟨h01, rfl⟩ := HNil.out rfl
    obtain rfl : mt = 0 := by omega
    obtain rfl : es = [] := List.eq_nil_of_length_eq_zero h01
    have qm0 : min (most : Int) 0 = 0 := by omega
    clear qmt
    go_wp2
    refine HKh.out _ _ ?_
    clear HKh
    go_wp2
    first | exact HR.out | exact ⟨rfl, HR.out⟩
   ·go_wp2
    refine HKh.out _ _ ?_
    clear HKh
    go_wp2
    first | exact HR.out | exact ⟨rfl, HR.out⟩
end LW
end Go.Proofs.YtdjanbojhblijaaGreat
