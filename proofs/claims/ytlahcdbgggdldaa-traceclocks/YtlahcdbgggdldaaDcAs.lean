/-
  Dm, Dc, Ll in one.
-/
import Derived.Test.YtlahcdbgggdldaaCkBs
import Derived.Test.YtlahcdbgggdldaaDnAs
import Derived.Test.YtlahcdbgggdldaaIn1s
import Derived.Test.YtlahcdbgggdldaaCkCs
set_option maxRecDepth 100000
set_option linter.unusedVariables false
namespace Go.Proofs.Ytlahcdbgggdldaa
open Mc Go.RowKit
namespace LW
/-- The clocks of some events. -/
def ckRows (s : Syst) (l : List Ev) (m : Nat) (out : List Int) : List (List Int) := out.map (fun x => clL s l 0 m x.toNat)
theorem clock_doc (s : Syst) (l : List Ev) (m j p : Nat) (hp : p < m) (out : List Int) (hout : ∀ x, x ∈ out ↔ ∃ i : Nat, x = (i : Int) ∧ Tr.Eg s l i j) : jn (ckRows s l m out) p + (if (Tr.ev l j).who = (p : Int) then 1 else 0) = (Tr.ck s l (p : Int) j : Int) := by
 have h := Tr.ck_eq s l (p : Int) j
 have hj : jn (ckRows s l m out) p = (Tr.mx (fun i => Tr.Eg s l i j) (fun i => Tr.decE s l i j) (Tr.ck s l (p : Int)) j : Int) := by
  refine jn_eq (by omega) (fun r hr => ?_) ?_
  ·obtain ⟨x, hx, rfl⟩ := List.mem_map.1 hr
   obtain ⟨i, rfl, hi⟩ := (hout x).1 hx
   rw [Int.toNat_natCast, clL_at s l 0 m i p hp, Nat.zero_add]
   have := Tr.mx_ge (P := fun i => Tr.Eg s l i j) (d := fun i => Tr.decE s l i j) (f := Tr.ck s l (p : Int)) hi.lt hi
   omega
  ·rcases Tr.mx_is (fun i => Tr.Eg s l i j) (fun i => Tr.decE s l i j) (Tr.ck s l (p : Int)) j with h1 | ⟨i, h1, h2, h3⟩
   ·exact .inl (by omega)
   ·refine .inr ⟨clL s l 0 m i, List.mem_map.2 ⟨(i : Int), (hout _).2 ⟨i, rfl, h2⟩, by rw [Int.toNat_natCast]⟩, ?_⟩
    rw [clL_at s l 0 m i p hp, Nat.zero_add]
    omega
 rw [hj, h]
 split <;> simp
theorem put_put (f : Nat → List Int) (k : Nat) (r r2 : List Int) : put (put f k r) k r2 = put f k r2 := by
 funext j
 unfold put
 by_cases e : j = k
 ·rw [if_pos e, if_pos e]
 ·rw [if_neg e, if_neg e, if_neg e]
/-- A row while the next one is joined into it. -/
def jnS (rows : List (List Int)) (r : List Int) (m p : Nat) : List Int := (List.range m).map (fun y => if y < p then mxI (jn rows y) (r.getD y 0) else jn rows y)
theorem jnS_len (rows : List (List Int)) (r : List Int) (m p : Nat) : (jnS rows r m p).length = m := by simp [jnS]
theorem jnS_zero (rows : List (List Int)) (r : List Int) (m : Nat) : jnS rows r m 0 = (List.range m).map (jn rows) := by
 unfold jnS
 simp
theorem jnS_all (rows : List (List Int)) (r : List Int) (m : Nat) : jnS rows r m m = (List.range m).map (jn (rows ++ [r])) := by
 unfold jnS
 apply List.map_congr_left
 intro y hy
 rw [if_pos (List.mem_range.1 hy), jn_snoc]
theorem jnS_next (rows : List (List Int)) (r : List Int) (m p : Nat) (hp : p < m) : (jnS rows r m p).set p (mxI (jn rows p) (r.getD p 0)) = jnS rows r m (p + 1) := by
 symm
 unfold jnS
 refine ext_rng _ _ _ (by simp) (fun q hq => ?_)
 rw [getD_set]
 by_cases e : p = q
 ·subst e
  rw [if_pos ⟨rfl, by simpa using hq⟩, if_pos (by omega)]
 ·rw [if_neg (fun h => e h.1), rng_getD _ m q hq]
  by_cases e2 : q < p
  ·rw [if_pos e2, if_pos (by omega)]
  ·rw [if_neg e2, if_neg (by omega)]
theorem jnS_get (rows : List (List Int)) (r : List Int) (m p : Nat) (hp : p < m) : (jnS rows r m p).getD p 0 = jn rows p := by
 unfold jnS
 rw [rng_getD _ m p hp, if_neg (by omega)]
end LW
end Go.Proofs.Ytlahcdbgggdldaa
namespace Go.Proofs.Ytlahcdbgggdldaa
open List renaming setIfInBounds_toArray → lpA, set_cons_zero → lpZ, set_cons_succ → lpS, getElem_toArray → lgT, getElem_cons_zero → lgZ, getElem_cons_succ → lgS
open Go.RowKit
set_option linter.unusedVariables false
set_option linter.unusedSimpArgs false
namespace LW
open Mc
theorem CM.clCell {o W : World} {G n : Nat} {cl ag : Nat → List Int} {hs : List Value} {v : Oc → Value} (h : CM o W G n cl ag hs v) (j p : Nat) {b cap : Nat} {n2 : Nat} (hv : v (Oc.cl j) = .slice (some ⟨b, 0, none⟩) n2 cap) (hp : p < (cl j).length) : W.cell? ⟨b, p, none⟩ = some (.int .i64 ((cl j).getD p 0)) := by
 obtain ⟨a, c, e, hn⟩ := h.clIs j
 rw [hv] at e
 injection e with e1 e2 e3
 subst e1
 rcases hn with h0 | ⟨b', o', e4, hc⟩
 ·rw [h0] at hp; simp at hp
 ·injection e4 with e4
  injection e4 with e5 e6
  subst e5 e6
  have := hc p hp
  rw [Nat.zero_add] at this
  exact this
theorem CM.frz {o W : World} {G n : Nat} {cl ag : Nat → List Int} {hs : List Value} {v : Oc → Value} (h : CM o W G n cl ag hs v) (j p : Nat) {b cap : Nat} {n2 : Nat} (hv : v (Oc.cl j) = .slice (some ⟨b, 0, none⟩) n2 cap) (hp : p < (cl j).length) : W.frozen? ⟨b, p, none⟩ = false := by
 have h9 : W.ownsRow o.heap.size 3 1 (v (Oc.cl j)) (cl j).length ((cl j).map (Value.int .i64)) := h.fam.own (Oc.cl j)
 obtain ⟨a, c, e, _⟩ := h.clIs j
 rw [hv] at h9 e
 injection e with _ e2 _
 subst e2
 exact h9.frozenAt p
theorem own_ltM {W : World} {B b n c m2 : Nat} {t : TypeId} {xs : List Value} (h : W.ownsRow B t 1 (.slice (some ⟨b, 0, none⟩) n c) m2 xs) (hn : 0 < n) : b < W.heap.size := by
 rcases h.2 with ⟨e, _⟩ | ⟨g, cap, cur, e, _, hh, _⟩
 ·cases e
 ·injection e with e1 _ _
  injection e1 with e1
  injection e1 with e1 _
  subst e1
  exact blk_lt hh
set_option maxRecDepth 100000 in
set_option maxHeartbeats 40000000 in
theorem rtclocks (s : Syst) (pa : Option Addr) (pc : Nat) (ra : Option Addr) (rc : Nat) (la : Option Addr) (lc : Nat) (l : List Ev) (w : World) (hs : SyI w s pa ra) (hl : EvI w la lc l) :
  Calls Try.prog 12 #[.agg #[.slice pa s.progs.length pc, .slice ra s.rooms.length rc, .int .i64 s.groups, .int .i64 s.locks, .int .i64 s.cells], .slice la l.length lc] w (fun e w' => (clE s l ≠ 0 → e = .returned (.tuple #[.slice none 0 0, .int .i64 (clE s l)])) ∧ (clE s l = 0 → ∃ o G ag hs v, e = .returned (.tuple #[v Oc.li, .int .i64 0]) ∧ w.heap.size ≤ o.heap.size ∧ CM o w' G l.length (fun j => if j < l.length then clL s l 0 (Tr.rnC l) j else []) ag hs v) ∧ Below w.heap.size w w') := by
 obtain ⟨POST, hP⟩ : ∃ Q : Ending → World → Prop, Q = fun e w' => (clE s l ≠ 0 → e = .returned (.tuple #[.slice none 0 0, .int .i64 (clE s l)])) ∧ (clE s l = 0 → ∃ o G ag hs v, e = .returned (.tuple #[v Oc.li, .int .i64 0]) ∧ w.heap.size ≤ o.heap.size ∧ CM o w' G l.length (fun j => if j < l.length then clL s l 0 (Tr.rnC l) j else []) ag hs v) ∧ Below w.heap.size w w' := ⟨_, rfl⟩
 obtain ⟨va, vn, ve, hV⟩ : ∃ a n e, Tr.vR s l = (a, n, e) := ⟨_, _, _, rfl⟩
 have HRd : Hid (∀ W, Below w.heap.size w W → Calls Try.prog 21 #[.agg #[.slice pa s.progs.length pc, .slice ra s.rooms.length rc, .int .i64 s.groups, .int .i64 s.locks, .int .i64 s.cells], .slice la l.length lc] W fun e w' => e = .returned (.tuple #[.int .i64 va, .int .i64 vn, .int .i64 ve]) ∧ Below W.heap.size W w') := fun W hW => (rtvalid s pa pc ra rc la lc l W (hs.below hW) (hl.below hW)).mono (fun e w' h => by rw [hV] at h; exact h)
 have HOk : Hid (ve = 0 → Ok s ∧ l.length ≤ 40000 ∧ Tr.Gd s l l.length) := fun h => by
  have h2 := Tr.vR_ok (s := s) (l := l) (by rw [hV]; exact h)
  exact ⟨h2.1, h2.2.1, h2.2.2.1⟩
 have HRn : Hid (ve = 0 → vn = (Tr.rnC l : Int)) := fun h => by
  have h2 := (Tr.vR_ok (s := s) (l := l) (by rw [hV]; exact h)).2.2.2
  rw [hV] at h2
  injection h2 with _ h3
  injection h3
 have HPe : Hid (ve ≠ 0 → ∀ W, Below w.heap.size w W → POST (.returned (.tuple #[.slice none 0 0, .int .i64 ve])) W) := fun h W hW => by
  rw [hP]
  have h1 : clE s l = ve := by unfold clE; rw [hV]; exact if_neg h
  rw [h1]
  exact ⟨fun _ => rfl, fun x => absurd x h, hW⟩
 have HPa : Hid (ve = 0 → 1048576 < l.length * Tr.rnC l → ∀ W, Below w.heap.size w W → POST (.returned (.tuple #[.slice none 0 0, .int .i64 2])) W) := fun h hi W hW => by
  rw [hP]
  have h1 : clE s l = 2 := by unfold clE; rw [hV]; dsimp only; rw [if_pos h, if_pos hi]
  rw [h1]
  exact ⟨fun _ => rfl, fun x => absurd x (by decide), hW⟩
 have HPo : Hid (ve = 0 → ¬ 1048576 < l.length * Tr.rnC l → ∀ W o v, w.heap.size ≤ o.heap.size → CM o W 0 l.length (cls s l 0 (Tr.rnC l) l.length) (fun _ => []) [] v → Below w.heap.size w W → POST (.returned (.tuple #[v Oc.li, .int .i64 0])) W) := fun h hi W o v ho hm hW => by
  rw [hP]
  have h1 : clE s l = 0 := by unfold clE; rw [hV]; dsimp only; rw [if_pos h, if_neg hi]
  rw [h1]
  exact ⟨fun x => absurd rfl x, fun _ => ⟨o, 0, (fun _ => []), [], v, rfl, ho, hm⟩, hW⟩
 rw [← hP]
 have HEw := TW.hide hl
 have HSw := TW.hide hs
 clear hP hs hl hV
 have hA : Below w.heap.size w (w.alloc (.cells #[.slice pa s.progs.length pc, .slice ra s.rooms.length rc, .int .i64 s.groups, .int .i64 s.locks, .int .i64 s.cells] 25)) := (Below.refl _ _).alloc (Nat.le_refl _) _
 have N1 : Hid ((w.alloc (.cells #[.slice pa s.progs.length pc, .slice ra s.rooms.length rc, .int .i64 s.groups, .int .i64 s.locks, .int .i64 s.cells] 25)).heap[w.heap.size]? = some (.cells #[.slice pa s.progs.length pc, .slice ra s.rooms.length rc, .int .i64 s.groups, .int .i64 s.locks, .int .i64 s.cells] 25 (0, 0))) := heap_alloc_new w _
 have NB := TW.hide hA
 clear hA
 go_enter Try.func12, Try.ntmps12
 refine wp_seq_k fun K hK => ?_
 have HK := TW.hide hK
 clear hK
 go_wp2
 refine HK.out _ _ ?_
 clear HK K
 generalize w.alloc _ = X at *
 obtain ⟨s0, s1, s2, s3, s4⟩ := cellsY5 N1.out
 refine wp_seq_k fun K1 hK1 => ?_
 have HK1 := TW.hide hK1
 clear hK1
 go_wp2_with fail
 refine (HRd.out X NB.out).mono ?_
 rintro e1 W1 ⟨rfl, hb⟩
 have NB1 : Hid (Below w.heap.size w W1) := NB.out.trans (hb.mono NB.out.size)
 have NS := TW.hide (blk_keep N1.out hb)
 clear hb NB N1 s0 s1 s2 s3 s4 HRd
 obtain ⟨s0, s1, s2, s3, s4⟩ := cellsY5 NS.out
 by_cases he : ve = 0
 ·obtain ⟨ho, hn, hg⟩ := HOk.out he
  obtain rfl := HRn.out he
  have HOs := TW.hide ho
  have HGd := TW.hide hg
  have HLn := TW.hide hn
  have hr5 : Tr.rnC l ≤ 512 := by
   have := Tr.rnC_le l.length (Nat.le_refl _) hg
   rw [List.take_length] at this
   exact this
  have wm : IntKind.i64.wrap ((l.length : Int) * (Tr.rnC l : Int)) = ((l.length * Tr.rnC l : Nat) : Int) := by
   have h9 : l.length * Tr.rnC l ≤ 40000 * 512 := Nat.mul_le_mul hn hr5
   rw [IntKind.wrap_i64, ← Int.natCast_mul]
   omega
  have HPa' := TW.hide (HPa.out he)
  have HPo' := TW.hide (HPo.out he)
  subst he
  clear ho hn hg HOk HPe HPa HPo HRn
  by_cases hbig : 1048576 < l.length * Tr.rnC l
  ·have kb : (1048576 : Int) < ((l.length * Tr.rnC l : Nat) : Int) := by omega
   have HP2 := TW.hide (HPa'.out hbig)
   clear hbig HPa' HPo'
   generalize l.length * Tr.rnC l = LR at *
   go_wp2
   refine HK1.out _ _ ?_
   clear HK1
   go_wp2
   have HR := TW.hide (HP2.out W1 NB1.out)
   first | exact HR.out | exact ⟨rfl, HR.out⟩
  ·have hkb : ((1048576 : Int) < ((l.length * Tr.rnC l : Nat) : Int)) = False := by simp; omega
   have HP2 := TW.hide (HPo'.out hbig)
   obtain ⟨m, hm⟩ : ∃ m, Tr.rnC l = m := ⟨_, rfl⟩
   rw [hm] at HP2 hr5 ⊢
   have HMr := TW.hide hm
   have HMm : Hid (m ≤ 512) := hr5
   rw [hm] at hkb wm
   clear hbig HPa' HPo' hr5 hm
   generalize l.length * m = LR at *
   go_wp2
   refine HK1.out _ _ ?_
   clear HK1
   refine wp_seq_k fun K1 hK1 => ?_
   have HK1 := TW.hide hK1
   clear hK1
   go_wp2
   refine HK1.out _ _ ?_
   clear HK1
   refine wp_seq_k fun K1 hK1 => ?_
   have HK1 := TW.hide hK1
   clear hK1
   go_wp2
   refine HK1.out _ _ ?_
   clear HK1
   refine wp_seq_k fun K1 hK1 => ?_
   have HK1 := TW.hide hK1
   clear hK1
   go_wp2
   refine HK1.out _ _ ?_
   clear HK1
   clear wm hkb
   have HXs : Hid (w.heap.size ≤ W1.heap.size) := NB1.out.size
   obtain ⟨v0, ev1, _, hm0⟩ := CM.start (o := W1) (W1 := W1) (W2 := W1) (G := 0) (u1 := .slice none 0 0) (u2 := .slice none 0 0) (Below.refl _ _) (World.ownsRow_nil _ _ _ _) (Below.refl _ _) (World.ownsRow_nil _ _ _ _)
   have HM0 : Hid (CM W1 W1 0 0 (cls s l 0 m 0) (fun _ => []) [] v0) := by
    rw [cls_zero]
    exact hm0
   have EV1 := TW.hide ev1
   clear hm0 ev1 s0 s1 s2 s3 s4
   obtain ⟨X, hX⟩ : ∃ X, X = W1 := ⟨_, rfl⟩
   rw [← hX] at HM0 NB1 NS HXs
   obtain ⟨i4, hi4, hz40, hz41, hz42⟩ := info_parts' slcinfo6
   obtain ⟨i3, hi3, hz30, hz31, hz32⟩ := info_parts' intinfo
   refine wp_seq_k fun Kl hKl => ?_
   have HKl := TW.hide hKl
   clear hKl
   subst hX
   go_wp2
   go_loopw [9, 10] (fun ov jv wr => ∃ (k : Nat) (v1 : Oc → Value) (ta : Option Addr) (tc : Nat), k ≤ l.length ∧ jv = .int .i64 (k : Int) ∧ ov = .slice ta k tc ∧ v1 Oc.li = .slice ta k tc ∧ Hid (CM X wr 0 k (cls s l 0 m k) (fun _ => []) [] v1)) (fun ov jv wr => l.length - (intOf jv).toNat)
   case atStart => exact ⟨0, v0, _, _, Nat.zero_le _, rfl, rfl, EV1.out, HM0⟩
   case round =>
    clear HM0 EV1
    obtain ⟨k, v1, ta, tc, hk, rfl, rfl, eli, HM⟩ := hrel
    by_cases hlt : k < l.length
    ·have hk1 : (k : Int) < (l.length : Int) := by omega
     have hk0 : (0 : Int) ≤ (k : Int) := by omega
     have hk40 : k ≤ 40000 := by have := HLn.out; omega
     obtain ⟨b, off, who, op, a, va2, sh, hla, hev, _, _, _, _, x0, _, _, _, _⟩ := (HEw.out.below NB1.out).get k hlt
     subst hla
     have hfit := HGd.out k hlt
     have hev' : l.getD k Tr.e0 = ⟨who, op, a, va2, sh⟩ := hev
     rw [hev'] at hfit
     have f0 := hfit.w0
     have f1 := hfit.w1
     dsimp only at f0 f1
     obtain ⟨wn, rfl⟩ : ∃ wn : Nat, who = (wn : Int) := ⟨who.toNat, by omega⟩
     have HWn : Hid (wn < m) := by
      show _ < _
      have h9 := Tr.rn_mono' l (show k ≤ l.length from hk) (Nat.le_refl _)
      rw [List.take_length, HMr.out] at h9
      omega
     have HLT := TW.hide hlt
     have HEV := TW.hide hev
     have ELi := TW.hide eli
     have hm40 : m ≤ 40000 := by have := HMm.out; omega
     have hm0 : (0 : Int) ≤ (m : Int) := by omega
     clear hlt hfit hev hev' f0 f1 eli HP2
     obtain ⟨wa, rfl⟩ : ∃ x, x = wr := ⟨_, rfl⟩
     refine wp_seq_k fun K1 hK1 => ?_
     have HK1 := TW.hide hK1
     clear hK1
     go_wp2
     refine HK1.out _ _ ?_
     clear HK1
     refine wp_seq_k fun Kb hKb => ?_
     have HKb := TW.hide hKb
     clear hKb
     refine wp_block ?_
     refine wp_seq_k fun K1 hK1 => ?_
     have HK1 := TW.hide hK1
     clear hK1
     go_wp2_with (at_make; refine wpList_make_full _ rfl _ _ 23 rfl wa.heap.size 3 i3 (.int .i64 0) 1 Try.underlying23 hi3 hz30 hz31 _ _ _ _ m rfl rfl rfl rfl (by rw [hz32]; omega) (by unfold maxLen; omega) (Nat.le_refl _) ?_; (intro w2 hown hgrow); (rw [made_rep _ rfl] at hown); have HO2 := TW.hide hown; have HG2 := TW.hide hgrow; clear hown hgrow)
     refine HK1.out _ _ ?_
     clear HK1
     have HB2 : Hid (Below wa.heap.size wa w2) := (Below.refl wa.heap.size wa).grown HG2.out (Nat.le_refl _) (by intro k h; cases h)
     have HBs : Hid (wa.heap.size < w2.heap.size) := own_ltM HO2.out (by have := HWn.out; omega)
     have HMn := TW.hide (HM.out.newCl HB2.out (List.replicate m 0) (.slice (some ⟨wa.heap.size, 0, none⟩) m m) (by rw [List.length_replicate, List.map_replicate]; exact HO2.out))
     have E2k : Hid (vpc v1 (Oc.cl k) (.slice (some ⟨wa.heap.size, 0, none⟩) m m) (Oc.cl k) = .slice (some ⟨wa.heap.size, 0, none⟩) m m) := vpc_same _ _ _
     have E2l : Hid (vpc v1 (Oc.cl k) (.slice (some ⟨wa.heap.size, 0, none⟩) m m) Oc.li = .slice ta k tc) := by show _ = _; rw [vpc_other _ _ _ _ (by intro e; cases e)]; exact ELi.out
     clear HM HG2 HO2 ELi HB2
     have HX0 := TW.hide x0
     clear x0
     generalize vpc v1 (Oc.cl k) (.slice (some ⟨wa.heap.size, 0, none⟩) m m) = v2 at *
     have HBc : Hid (wa.heap.size < w2.heap.size) := HBs.out
     generalize wa.heap.size = bc at *
     have NS2 := TW.hide (blk_keep NS.out HMn.out.bl)
     obtain ⟨s0, s1, s2, s3, s4⟩ := cellsY5 NS2.out
     refine wp_seq_k fun K1 hK1 => ?_
     have HK1 := TW.hide hK1
     clear hK1
     go_wp2_with fail
     refine (rinto s pa pc ra rc (some ⟨b, off, none⟩) lc l k w2 (HSw.out.below (NB1.out.trans (HMn.out.bl.mono NB1.out.size))) (HEw.out.below (NB1.out.trans (HMn.out.bl.mono NB1.out.size))) HOs.out HGd.out HLn.out HLT.out).mono ?_
     rintro e3 W3 ⟨⟨vo, out, rfl, how, _, hmem, hol⟩, hb⟩
     have HM3 := TW.hide (HMn.out.below hb)
     obtain ⟨oa, oc, rfl, _⟩ := nr_own9 how
     have HMem := TW.hide hmem
     obtain ⟨L, hL⟩ : ∃ L, out.length = L := ⟨_, rfl⟩
     have HLo := TW.hide hL
     rw [hL] at hol how ⊢
     obtain ⟨B0, hB0⟩ : ∃ B0, w2.heap.size = B0 := ⟨_, rfl⟩
     have HB0 : Hid (bc < B0) := by show _ < _; rw [← hB0]; exact HBc.out
     rw [hB0] at how
     have HOw0 := TW.hide how
     clear how hb hmem hL HMn NS2 s0 s1 s2 s3 s4 hB0
     go_wp2
     refine HK1.out _ _ ?_
     clear HK1
     have HM4 : Hid (CM X W3 0 k (put (cls s l 0 m k) k ((List.range m).map (jn (ckRows s l m (out.take 0))))) (fun _ => []) [] v2) := by
      have e : List.replicate m (0 : Int) = (List.range m).map (jn (ckRows s l m (out.take 0))) := by
       symm
       refine ext_rng _ _ _ (by simp) (fun p hp => ?_)
       rw [List.getD_eq_getElem?_getD, List.getElem?_replicate, if_pos hp]
       rfl
      rw [← e]
      exact HM3.out
     clear HM3
     refine wp_seq_k fun Km hKm => ?_
     have HKm := TW.hide hKm
     clear hKm
     go_wp2
     go_loopw [13] (fun iv wr => ∃ i : Nat, i ≤ L ∧ iv = .int .i64 (i : Int) ∧ Hid (CM X wr 0 k (put (cls s l 0 m k) k ((List.range m).map (jn (ckRows s l m (out.take i))))) (fun _ => []) [] v2) ∧ Hid (wr.ownsRow B0 3 1 (.slice oa L oc) L (out.map (Value.int .i64)))) (fun iv wr => L - (intOf iv).toNat)
     case atStart => exact ⟨0, Nat.zero_le _, rfl, HM4, HOw0⟩
     case round =>
      clear HM4 HOw0
      obtain ⟨i, hi, rfl, HM, HOw⟩ := hrel
      by_cases hlt : i < L
      ·have HIo : Hid (i < out.length) := by show _ < _; rw [HLo.out]; exact hlt
       have qi1 : (i : Int) < (L : Int) := by omega
       have qi0 : (0 : Int) ≤ (i : Int) := by omega
       have HIL := TW.hide hlt
       have hi41 : i + 1 ≤ 40001 := by omega
       obtain ⟨i0, hi0, heg⟩ := (HMem.out (out.getD i 0)).1 (by rw [List.getD_eq_getElem?_getD, List.getElem?_eq_getElem HIo.out]; exact List.getElem_mem _)
       have HI0 := TW.hide hi0
       have HI0k : Hid (i0 < k) := heg.lt
       have HSn : Hid ((List.range m).map (jn (ckRows s l m (out.take i) ++ [clL s l 0 m i0])) = (List.range m).map (jn (ckRows s l m (out.take (i + 1))))) := by
        show _ = _
        rw [take_one9 out i HIo.out 0, hi0]
        unfold ckRows
        rw [List.map_append]
        rfl
       obtain ⟨oa_, oc_, eo, hor⟩ := own_read1 0 HOw.out HLo.out
       injection eo with eo1 _ eo3
       subst eo1 eo3
       rcases hor with h | ⟨b2, rfl, _⟩
       ·have := HIo.out; rw [h] at this; simp at this
       clear hi0 heg hlt hi
       obtain ⟨wc, rfl⟩ : ∃ x, x = wr := ⟨_, rfl⟩
       refine wp_seq_k fun K1 hK1 => ?_
       have HK1 := TW.hide hK1
       clear hK1
       go_wp2
       refine HK1.out _ _ ?_
       clear HK1
       refine wp_seq_k fun Kb2 hKb2 => ?_
       have HKb2 := TW.hide hKb2
       clear hKb2
       refine wp_block ?_
       go_wp2
       go_loopw [14] (fun pv wr => ∃ p : Nat, p ≤ m ∧ pv = .int .i64 (p : Int) ∧ Hid (CM X wr 0 k (put (cls s l 0 m k) k (jnS (ckRows s l m (out.take i)) (clL s l 0 m i0) m p)) (fun _ => []) [] v2) ∧ Hid (wr.ownsRow B0 3 1 (.slice (some ⟨b2, 0, none⟩) L oc) L (out.map (Value.int .i64)))) (fun pv wr => m - (intOf pv).toNat)
       case atStart => exact ⟨0, Nat.zero_le _, rfl, by rw [jnS_zero]; exact HM, HOw⟩
       case round =>
        clear HM HOw
        obtain ⟨p, hp, rfl, HM, HOw⟩ := hrel
        by_cases hpm : p < m
        ·have HPm := TW.hide hpm
         have qp1 : (p : Int) < (m : Int) := by omega
         have qp0 : (0 : Int) ≤ (p : Int) := by omega
         have hm41 : p + 1 ≤ 40000 := by have := HMm.out; omega
         have yp := HM.out.clCell k p E2k.out (by rw [put_same, jnS_len]; exact hpm)
         rw [put_same, jnS_get _ _ _ _ hpm] at yp
         have ym := (own_at9 HOw.out i HIo.out).1
         rw [HI0.out] at ym
         obtain ⟨b4, cp4, e4, yh⟩ := HM.out.liAt i0 HI0k.out
         rw [E2l.out] at e4
         injection e4 with e41 _ e43
         subst e41 e43
         obtain ⟨ra_, rc2, e5, hnr⟩ := HM.out.clIs i0
         have hcl : put (cls s l 0 m k) k (jnS (ckRows s l m (out.take i)) (clL s l 0 m i0) m p) i0 = clL s l 0 m i0 := by
          unfold put cls
          rw [if_neg (by have := HI0k.out; omega), if_pos HI0k.out]
         rw [hcl] at e5 hnr
         rw [clL_len] at e5
         rw [e5] at yh
         rcases hnr with h | ⟨rb, ro, rfl, hc⟩
         ·have h9 := clL_len s l 0 m i0
          rw [h] at h9
          simp at h9
          omega
         have yr := hc p (by rw [clL_len]; exact hpm)
         obtain ⟨x0, hx0⟩ : ∃ x0, jn (ckRows s l m (out.take i)) p = x0 := ⟨_, rfl⟩
         obtain ⟨y0, hy0⟩ : ∃ y0, (clL s l 0 m i0).getD p 0 = y0 := ⟨_, rfl⟩
         have HJn : Hid ((jnS (ckRows s l m (out.take i)) (clL s l 0 m i0) m p).set p (mxI x0 y0) = jnS (ckRows s l m (out.take i)) (clL s l 0 m i0) m (p + 1)) := by
          show _ = _
          rw [← hx0, ← hy0]
          exact jnS_next _ _ _ _ hpm
         rw [hx0] at yp
         rw [hy0] at yr
         have qi0 : (0 : Int) ≤ (i0 : Int) := by omega
         have qi1 : (i0 : Int) < (k : Int) := by have := HI0k.out; omega
         have qo0 : (0 : Int) ≤ (i : Int) := by omega
         have qo1 : (i : Int) < (L : Int) := by have := HIo.out; have := HLo.out; omega
         clear hx0 hy0 hc hcl e5 hpm hp
         refine wp_seq_k fun K1 hK1 => ?_
         have HK1 := TW.hide hK1
         clear hK1
         go_wp2
         refine HK1.out _ _ ?_
         clear HK1
         refine wp_seq_k fun Kb3 hKb3 => ?_
         have HKb3 := TW.hide hKb3
         clear hKb3
         refine wp_block ?_
         have HV : Hid (max x0 y0 = mxI x0 y0) := by
          show _ = _
          unfold mxI
          split <;> omega
         refine wp_region_noPanic ?_
         refine RG.wp_region_L (fun Z => Below wr.heap.size wr Z) (fun Z => True) [18] (by kernel_rfl) ?_
         refine RG.wpL_any fun Yz75 hY => ?_
         have HBz75 : Hid (Below wr.heap.size wr Yz75) := by rw [hY]; exact below_drewN (Below.refl _ _) 1
         clear hY
         refine RG.wpL_takeS (fuel := 1) (a' := ?Az75) [0, 1, 2, 3, 4, 5, 6, 7, 8, 9, 10, 11, 12, 13, 14, 15, 16, 17] (by kernel_rfl) (by kernel_rfl) (fun _ _ _ _ _ h => h) trivial (HBz75.out) ?rz75 ?_
         case rz75 =>
          iterate 5
           refine RG.RunsS.one (v := ?_) (by rfl) (by rfl) (fun Z hT hS => ?_) ?_
           rotate_left
           ·go_simp
            rfl
           simp only [Act.put, lpA, lpZ, lpS, lgT, lgZ, lgS]
          refine RG.RunsS.one (v := .int .i64 x0) (by rfl) (by rfl) (fun Z hT hS => ?_) ?_
          ·have yp := keepC hS yp; have ym := keepC hS ym; have yh := keepC hS yh; have yr := keepC hS yr
           go_simp
          simp only [Act.put, lpA, lpZ, lpS, lgT, lgZ, lgS]
          iterate 4
           refine RG.RunsS.one (v := ?_) (by rfl) (by rfl) (fun Z hT hS => ?_) ?_
           rotate_left
           ·go_simp
            rfl
           simp only [Act.put, lpA, lpZ, lpS, lgT, lgZ, lgS]
          refine RG.RunsS.one (v := .int .i64 (i0 : Int)) (by rfl) (by rfl) (fun Z hT hS => ?_) ?_
          ·have yp := keepC hS yp; have ym := keepC hS ym; have yh := keepC hS yh; have yr := keepC hS yr
           go_simp
          simp only [Act.put, lpA, lpZ, lpS, lgT, lgZ, lgS]
          refine RG.RunsS.one (v := ?_) (by rfl) (by rfl) (fun Z hT hS => ?_) ?_
          rotate_left
          ·go_simp
           rfl
          simp only [Act.put, lpA, lpZ, lpS, lgT, lgZ, lgS]
          refine RG.RunsS.one (v := .slice (some ⟨rb, ro, none⟩) m rc2) (by rfl) (by rfl) (fun Z hT hS => ?_) ?_
          ·have yp := keepC hS yp; have ym := keepC hS ym; have yh := keepC hS yh; have yr := keepC hS yr
           go_simp
          simp only [Act.put, lpA, lpZ, lpS, lgT, lgZ, lgS]
          iterate 2
           refine RG.RunsS.one (v := ?_) (by rfl) (by rfl) (fun Z hT hS => ?_) ?_
           rotate_left
           ·go_simp
            rfl
           simp only [Act.put, lpA, lpZ, lpS, lgT, lgZ, lgS]
          refine RG.RunsS.one (v := .int .i64 y0) (by rfl) (by rfl) (fun Z hT hS => ?_) ?_
          ·have yp := keepC hS yp; have ym := keepC hS ym; have yh := keepC hS yh; have yr := keepC hS yr
           go_simp
          simp only [Act.put, lpA, lpZ, lpS, lgT, lgZ, lgS]
          iterate 2
           refine RG.RunsS.one (v := ?_) (by rfl) (by rfl) (fun Z hT hS => ?_) ?_
           rotate_left
           ·go_simp
            rfl
           simp only [Act.put, lpA, lpZ, lpS, lgT, lgZ, lgS]
          exact RG.RunsS.nil
         have cz := keepC HBz75.out yp
         have fz : Yz75.frozen? ⟨bc, p, none⟩ = false := (HM.out.below HBz75.out).frz k p E2k.out (by rw [put_same, jnS_len]; exact HPm.out)
         refine RG.wpL_late (i := 18) (by kernel_rfl) (by rfl) (by rfl) (by kernel_rfl) (fun KX hK => ?_)
         have HK := TW.hide hK
         clear hK
         go_simp
         refine HK.out _ _ trivial ?_
         clear HK KX cz fz
         refine RG.wpL_done (by kernel_rfl) ?_ _
         refine NoPanic.normal ?_
         have HM9 := TW.hide ((HM.out.below HBz75.out).setCl k p (max x0 y0) (b := bc) (cap := m) (by rw [E2k.out, put_same, jnS_len]))
         rw [put_same, put_put, show (jnS (ckRows s l m (out.take i)) (clL s l 0 m i0) m p).set p (max x0 y0) = jnS (ckRows s l m (out.take i)) (clL s l 0 m i0) m (p + 1) from by rw [HV.out]; exact HJn.out] at HM9
         have HOn9 : Hid (World.ownsRow _ B0 3 1 (.slice (some ⟨b2, 0, none⟩) L oc) L (out.map (Value.int .i64))) := own_setB (p := bc) (o := p) (u := .int .i64 (max x0 y0)) (own_belowI HOw.out HBz75.out) (fun e => by have := own_blkI HOw.out _ e; have := HB0.out; omega)
         clear HM HV HOw yp ym yh yr
         go_wp2
         refine HKb3.out _ _ ?_
         go_wp2
         go_roundw
         case rel => exact ⟨p + 1, HPm.out, by go_num, HM9, HOn9⟩
         case measure => simp [intOf]; have := HPm.out; omega
        ·obtain rfl : m = p := by omega
         have qk : ¬ (m : Int) < (m : Int) := by omega
         rw [jnS_all, HSn.out] at HM
         clear hpm
         go_wp2
         refine HKb2.out _ _ ?_
         go_wp2
         go_roundw
         case rel => exact ⟨i + 1, HIL.out, by go_num, HM, HOw⟩
         case measure => simp [intOf]; have := HIL.out; omega
      ·obtain rfl : L = i := by omega
       have qk : ¬ (L : Int) < (L : Int) := by omega
       have HM5 : Hid (CM X wr 0 k (put (cls s l 0 m k) k ((List.range m).map (jn (ckRows s l m out)))) (fun _ => []) [] v2) := by
        have h9 := HM.out
        rw [← HLo.out, List.take_length] at h9
        exact h9
       clear HM HOw hlt hi
       go_wp2
       refine HKm.out _ _ ?_
       clear HKm
       obtain ⟨wd, rfl⟩ : ∃ x, x = wr := ⟨_, rfl⟩
       have hwm := HWn.out
       obtain ⟨c0, hc0⟩ : ∃ c0, jn (ckRows s l m out) wn = c0 := ⟨_, rfl⟩
       have x0 := keepC HM5.out.bl HX0.out
       have yp := HM5.out.clCell k wn E2k.out (by rw [put_same, len_rng]; exact hwm)
       rw [put_same, rng_getD _ m wn hwm, hc0] at yp
       have fp := HM5.out.frz k wn E2k.out (by rw [put_same, len_rng]; exact hwm)
       have hck := clock_doc s l m k wn hwm out HMem.out
       have hek : (Tr.ev l k).who = (wn : Int) := by rw [HEV.out]
       rw [if_pos hek, hc0] at hck
       have hcl := Tr.ck_le s l (wn : Int) k HLT.out
       have hwc : Tr.wc l (wn : Int) (k + 1) ≤ k + 1 := by
        unfold Tr.wc
        exact Nat.le_trans List.countP_le_length (by rw [List.length_take]; omega)
       have hc9 : 0 ≤ c0 := by rw [← hc0]; exact jn_nn _ _
       have kw : IntKind.i64.wrap (c0 + 1) = c0 + 1 := by rw [IntKind.wrap_i64]; omega
       have HRw : Hid (((List.range m).map (jn (ckRows s l m out))).set wn (c0 + 1) = clL s l 0 m k) := by
        show _ = _
        symm
        unfold clL
        refine ext_rng _ _ _ (by simp) (fun q hq => ?_)
        rw [getD_set]
        have h4 := clock_doc s l m k q hq out HMem.out
        rw [Nat.zero_add]
        by_cases e : wn = q
        ·subst e
         rw [if_pos ⟨rfl, by simpa using hwm⟩]
         exact hck
        ·rw [if_neg (fun h => e h.1), rng_getD _ m q hq]
         rw [if_neg (by rw [hek]; omega)] at h4
         omega
       have qw0 : (0 : Int) ≤ (wn : Int) := by omega
       have qw1 : (wn : Int) < (m : Int) := by omega
       have HMs := TW.hide (fun Y (hY : Below wd.heap.size wd Y) => (HM5.out.below hY).setCl k wn (c0 + 1) (b := bc) (cap := m) (by rw [E2k.out, put_same, len_rng]))
       clear hc0 hck hek hcl hwc hc9 hwm
       refine wp_seq_k fun K1 hK1 => ?_
       have HK1 := TW.hide hK1
       clear hK1
       refine wp_region_noPanic ?_
       refine RG.wp_region_L (fun Z => Below wd.heap.size wd Z) (fun Z => True) [16] (by kernel_rfl) ?_
       refine RG.wpL_any fun Yz76 hY => ?_
       have HBz76 : Hid (Below wd.heap.size wd Yz76) := by rw [hY]; exact below_drewN (Below.refl _ _) 1
       clear hY
       refine RG.wpL_takeS (fuel := 1) (a' := ?Az76) [0, 1, 2, 3, 4, 5, 6, 7, 8, 9, 10, 11, 12, 13, 14, 15] (by kernel_rfl) (by kernel_rfl) (fun _ _ _ _ _ h => h) trivial (HBz76.out) ?rz76 ?_
       case rz76 =>
        iterate 5
         refine RG.RunsS.one (v := ?_) (by rfl) (by rfl) (fun Z hT hS => ?_) ?_
         rotate_left
         ·go_simp
          rfl
         simp only [Act.put, lpA, lpZ, lpS, lgT, lgZ, lgS]
        refine RG.RunsS.one (v := .int .i64 (wn : Int)) (by rfl) (by rfl) (fun Z hT hS => ?_) ?_
        ·have x0 := keepC hS x0; have yp := keepC hS yp
         go_simp
        simp only [Act.put, lpA, lpZ, lpS, lgT, lgZ, lgS]
        iterate 5
         refine RG.RunsS.one (v := ?_) (by rfl) (by rfl) (fun Z hT hS => ?_) ?_
         rotate_left
         ·go_simp
          rfl
         simp only [Act.put, lpA, lpZ, lpS, lgT, lgZ, lgS]
        refine RG.RunsS.one (v := .int .i64 (wn : Int)) (by rfl) (by rfl) (fun Z hT hS => ?_) ?_
        ·have x0 := keepC hS x0; have yp := keepC hS yp
         go_simp
        simp only [Act.put, lpA, lpZ, lpS, lgT, lgZ, lgS]
        refine RG.RunsS.one (v := ?_) (by rfl) (by rfl) (fun Z hT hS => ?_) ?_
        rotate_left
        ·go_simp
         rfl
        simp only [Act.put, lpA, lpZ, lpS, lgT, lgZ, lgS]
        refine RG.RunsS.one (v := .int .i64 c0) (by rfl) (by rfl) (fun Z hT hS => ?_) ?_
        ·have x0 := keepC hS x0; have yp := keepC hS yp
         go_simp
        simp only [Act.put, lpA, lpZ, lpS, lgT, lgZ, lgS]
        iterate 2
         refine RG.RunsS.one (v := ?_) (by rfl) (by rfl) (fun Z hT hS => ?_) ?_
         rotate_left
         ·go_simp
          rfl
         simp only [Act.put, lpA, lpZ, lpS, lgT, lgZ, lgS]
        exact RG.RunsS.nil
       have cz := keepC HBz76.out yp
       have fz : Yz76.frozen? ⟨bc, wn, none⟩ = false := (HM5.out.below HBz76.out).frz k wn E2k.out (by rw [put_same, len_rng]; exact HWn.out)
       refine RG.wpL_late (i := 16) (by kernel_rfl) (by rfl) (by rfl) (by kernel_rfl) (fun KX hK => ?_)
       have HK := TW.hide hK
       clear hK
       go_simp
       refine HK.out _ _ trivial ?_
       clear HK KX cz fz
       refine RG.wpL_done (by kernel_rfl) ?_ _
       refine NoPanic.normal ?_
       refine HK1.out _ _ ?_
       clear HK1
       have HM6 := TW.hide (HMs.out Yz76 HBz76.out)
       rw [put_same, put_put, HRw.out, cls_put] at HM6
       try rw [kw]
       clear HMs HM5 HRw kw x0 yp fp
       have E6l := E2l
       have E6k := E2k
       generalize hwr : World.setCell _ _ _ = wr at *
       clear hwr
       have hAl_ : Below wr.heap.size wr (wr.alloc (.cells #[.slice (some ⟨bc, 0, none⟩) m m] 23)) := (Below.refl _ _).alloc (Nat.le_refl _) _
       have HMa := TW.hide (HM6.out.below hAl_)
       have HOa : Hid ((wr.alloc (.cells #[.slice (some ⟨bc, 0, none⟩) m m] 23)).ownsRow X.heap.size 23 1 (.slice ta k tc) k (rwI k (fun j => v2 (Oc.cl j)))) := by
        have h9 : (wr.alloc (.cells #[.slice (some ⟨bc, 0, none⟩) m m] 23)).ownsRow X.heap.size 23 1 (v2 Oc.li) k (rwI k (fun j => v2 (Oc.cl j))) := HMa.out.fam.own Oc.li
        show World.ownsRow _ _ _ _ _ _ _
        rw [E6l.out] at h9
        exact h9
       have HSa : Hid (X.heap.size ≤ (wr.alloc (.cells #[.slice (some ⟨bc, 0, none⟩) m m] 23)).heap.size) := HMa.out.bl.size
       have HF5 : Hid (∀ v5 w5, w5.ownsRow X.heap.size 23 1 v5 (k + 1) (rwI k (fun j => v2 (Oc.cl j)) ++ [.slice (some ⟨bc, 0, none⟩) m m]) → (wr.alloc (.cells #[.slice (some ⟨bc, 0, none⟩) m m] 23)).grownBy w5 (Value.slice ta k tc).ownBlock → (v5.ownBlock = (Value.slice ta k tc).ownBlock ∨ v5.ownBlock = some (wr.alloc (.cells #[.slice (some ⟨bc, 0, none⟩) m m] 23)).heap.size) → (∃ va_ vc_, v5 = .slice va_ (k + 1) vc_) ∧ CM X w5 0 (k + 1) (cls s l 0 m (k + 1)) (fun _ => []) [] (vpc v2 Oc.li v5) ∧ (vpc v2 Oc.li v5) Oc.li = v5) := fun v5 w5 h1 h2 h3 =>
        ⟨own_openE h1, HMa.out.appLi v5 (by rw [E6k.out]; exact h1) (by rw [E6l.out]; exact h2) (by rw [E6l.out]; exact h3), vpc_same _ _ _⟩
       clear hAl_ HMa HM6
       go_wp2_with (at_builtin; refine wpList_append_own_at _ rfl _ _ 38 rfl X.heap.size 23 i4 (.slice none 0 0) 1 24 Try.underlying38 hi4 hz40 hz41 hz42 rfl (by decide) _ k (rwI k (fun j => v2 (Oc.cl j))) rfl HOa.out ⟨wr.heap.size, 0, none⟩ 1 1 [.slice (some ⟨bc, 0, none⟩) m m] rfl rfl (cell_one_new _ _ _) (by simp [Value.oneCell']) (by unfold maxLen; omega) (by omega) HSa.out ?_; (intro v5 w5 h51 h52 _ h53); obtain ⟨⟨va_, vc_, rfl⟩, hm5, hn5⟩ := HF5.out v5 w5 h51 h52 h53; have HM8 := TW.hide hm5; have E8l := TW.hide hn5; clear h51 h52 h53 hm5 hn5 HF5)
       refine HKb.out _ _ ?_
       go_wp2
       go_roundw
       case rel => exact ⟨k + 1, _, _, _, HLT.out, by go_num, rfl, E8l.out, HM8⟩
       case measure => simp [intOf]; have := HLT.out; omega
    ·obtain rfl : k = l.length := by omega
     have qk : ¬ (l.length : Int) < (l.length : Int) := by omega
     have HR := TW.hide (HP2.out wr X v1 HXs.out HM.out (NB1.out.trans (HM.out.bl.mono NB1.out.size)))
     rw [eli] at HR
     clear HM HP2 eli
     go_wp2
     refine HKl.out _ _ ?_
     clear HKl
     go_wp2
     first | exact HR.out | exact ⟨rfl, HR.out⟩
 ·have HR := TW.hide (HPe.out he W1 NB1.out)
  have kv : (ve != 0) = true := by simp [he]
  clear he HOk HPe HPa HPo HEw HRn
  go_wp2
  refine HK1.out _ _ ?_
  clear HK1
  go_wp2
  first | exact HR.out | exact ⟨rfl, HR.out⟩
end LW
end Go.Proofs.Ytlahcdbgggdldaa
set_option maxRecDepth 100000
set_option linter.unusedVariables false
namespace Go.Proofs.Ytlahcdbgggdldaa
open Mc Go.RowKit
namespace LW
/-- The rows: the list's own row (hd, in it hv), and each row (vs, in it cs). -/
def fL (n : Nat) (hd : Value) (hv vs : Nat → Value) (cs : Nat → List Int) : Option Nat → Rw
 | none => ⟨23, 1, hd, n, rwI n hv⟩
 | some j => ⟨3, 1, vs j, (cs j).length, (cs j).map (Value.int .i64)⟩
structure LL (W : World) (B n : Nat) (hd : Value) (hv vs : Nat → Value) (cs : Nat → List Int) : Prop where
 fam : Fam W B (fL n hd hv vs cs)
section
variable {W W1 : World} {B n : Nat} {hd : Value} {hv vs : Nat → Value} {cs : Nat → List Int}
theorem LL.below (h : LL W B n hd hv vs cs) (hb : Below W.heap.size W W1) : LL W1 B n hd hv vs cs := ⟨h.fam.below hb⟩
theorem LL.nil0 (W : World) (B : Nat) : LL W B 0 (.slice none 0 0) (fun _ => .slice none 0 0) (fun _ => .slice none 0 0) (fun _ => []) := by
 have h := Fam.none W B (fun i : Option Nat => match i with | none => 23 | some _ => 3) (fun _ => 1)
 refine ⟨h.congr (fun i => ?_)⟩
 rcases i with _ | j <;> rfl
theorem LL.of {o : World} {G : Nat} {cl ag : Nat → List Int} {hs : List Value} {v : Oc → Value} (h : CM o W G n cl ag hs v) : LL W o.heap.size n (v Oc.li) (fun j => v (Oc.cl j)) (fun j => v (Oc.cl j)) cl := by
 let nm : Option Nat → Oc := fun i => match i with | none => Oc.li | some j => Oc.cl j
 have e : ∀ i, fL n (v Oc.li) (fun j => v (Oc.cl j)) (fun j => v (Oc.cl j)) cl i = fc G n cl ag hs v (nm i) := fun i => by rcases i with _ | j <;> rfl
 refine ⟨⟨fun i => by rw [e]; exact h.fam.own (nm i), fun i j b hi hj => ?_⟩⟩
 rw [e] at hi hj
 have := h.fam.dis _ _ b hi hj
 rcases i with _ | i <;> rcases j with _ | j
 ·rfl
 ·cases this
 ·cases this
 ·injection this with h1
  injection h1 with h1
  rw [h1]
/-- The list's own row. -/
theorem LL.hAt (h : LL W B n hd hv vs cs) (j : Nat) (hj : j < n) : ∃ b cap, hd = .slice (some ⟨b, 0, none⟩) n cap ∧ B ≤ b ∧ W.cell? ⟨b, j, none⟩ = some (hv j) ∧ W.frozen? ⟨b, j, none⟩ = false := by
 have hl : j < (fL n hd hv vs cs none).con.length := by show j < (rwI n hv).length; rw [rwI_len]; exact hj
 obtain ⟨b, cap, e, h1, h2, h3⟩ := h.fam.cell none j hl
 refine ⟨b, cap, e, h1, ?_, h3⟩
 rw [h2]
 show some ((rwI n hv).getD j (.bool false)) = _
 rw [List.getD_eq_getElem?_getD, rwI_get n _ j hj]
 rfl
theorem LL.hIs (h : LL W B n hd hv vs cs) : ∃ a c, hd = .slice a n c := own_openE (h.fam.own none)
/-- A row. -/
theorem LL.rIs (h : LL W B n hd hv vs cs) (j : Nat) : ∃ a c, vs j = .slice a (cs j).length c ∧ NR W a (cs j) := by
 have ho : W.ownsRow B 3 1 (vs j) (cs j).length ((cs j).map (Value.int .i64)) := h.fam.own (some j)
 exact nr_own9 ho
theorem LL.rAt (h : LL W B n hd hv vs cs) (j p : Nat) (hp : p < (cs j).length) : ∃ b cap, vs j = .slice (some ⟨b, 0, none⟩) (cs j).length cap ∧ B ≤ b ∧ W.cell? ⟨b, p, none⟩ = some (.int .i64 ((cs j).getD p 0)) ∧ W.frozen? ⟨b, p, none⟩ = false := by
 have hl : p < (fL n hd hv vs cs (some j)).con.length := by show p < ((cs j).map _).length; rw [List.length_map]; exact hp
 obtain ⟨b, cap, e, h1, h2, h3⟩ := h.fam.cell (some j) p hl
 refine ⟨b, cap, e, h1, ?_, h3⟩
 rw [h2]
 show some (((cs j).map (Value.int .i64)).getD p (.bool false)) = _
 rw [List.getD_eq_getElem?_getD, List.getElem?_map, List.getD_eq_getElem?_getD, List.getElem?_eq_getElem hp]
 rfl
def vup (v : Nat → Value) (j : Nat) (u : Value) : Nat → Value := fun i => if i = j then u else v i
theorem vup_same (v : Nat → Value) (j : Nat) (u : Value) : vup v j u j = u := by simp [vup]
/-- A number of a row is set. -/
theorem LL.setR (h : LL W B n hd hv vs cs) (j p : Nat) (x : Int) {b c : Nat} (hvj : vs j = .slice (some ⟨b, 0, none⟩) (cs j).length c) : LL (W.setCell ⟨b, p, none⟩ (.int .i64 x)) B n hd hv vs (put cs j ((cs j).set p x)) := by
 have h1 := h.fam.set (some j) (b := b) (n := (cs j).length) (cap := c) hvj rfl p (.int .i64 x)
 refine ⟨h1.congr (fun i => ?_)⟩
 rcases i with _ | i
 ·rw [upd_other _ _ _ _ (by intro e; cases e)]; rfl
 ·by_cases e : i = j
  ·subst e
   rw [upd_same]
   show fL n hd hv vs (put cs i ((cs i).set p x)) (some i) = _
   unfold fL put
   simp only [if_true, List.length_set, List.map_set]
  ·rw [upd_other _ _ _ _ (by intro e2; injection e2 with e2; exact e e2)]
   unfold fL put
   simp only [if_neg e]
/-- A row grows. -/
theorem LL.appR (h : LL W B n hd hv vs cs) (j : Nat) (xs : List Int) (u : Value) (ho : W1.ownsRow B 3 1 u ((cs j).length + xs.length) ((cs j).map (Value.int .i64) ++ xs.map (Value.int .i64))) (hg : W.grownBy W1 (vs j).ownBlock) (hat : u.ownBlock = (vs j).ownBlock ∨ u.ownBlock = some W.heap.size) : LL W1 B n hd hv (vup vs j u) (put cs j (cs j ++ xs)) := by
 have h1 := h.fam.grown (some j) ⟨3, 1, u, (cs j).length + xs.length, (cs j).map (Value.int .i64) ++ xs.map (Value.int .i64)⟩ hg ho (hat.imp id (fun e b hb => by rw [e] at hb; injection hb with hb; omega))
 refine ⟨h1.congr (fun i => ?_)⟩
 rcases i with _ | i
 ·rw [upd_other _ _ _ _ (by intro e; cases e)]; rfl
 ·by_cases e : i = j
  ·subst e
   rw [upd_same]
   unfold fL put vup
   simp only [if_true, List.length_append, List.map_append]
  ·rw [upd_other _ _ _ _ (by intro e2; injection e2 with e2; exact e e2)]
   unfold fL put vup
   simp only [if_neg e]
/-- A place of the list is set. -/
theorem LL.setH (h : LL W B n hd hv vs cs) (j : Nat) (u : Value) {b c : Nat} (hvj : hd = .slice (some ⟨b, 0, none⟩) n c) : LL (W.setCell ⟨b, j, none⟩ u) B n hd (vup hv j u) vs cs := by
 have h1 := h.fam.set none (b := b) (n := n) (cap := c) hvj rfl j u
 refine ⟨h1.congr (fun i => ?_)⟩
 rcases i with _ | i
 ·rw [upd_same]
  unfold fL
  dsimp only
  congr 1
  unfold rwI
  apply List.ext_getElem?
  intro q
  rw [List.getElem?_set, List.getElem?_map, List.getElem?_map, List.length_map, List.length_range]
  by_cases hq : q < n
  ·rw [List.getElem?_range hq]
   by_cases e : j = q
   ·subst e
    rw [if_pos rfl, if_pos hq]
    simp [vup]
   ·rw [if_neg e]
    show some (vup hv j u q) = some (hv q)
    unfold vup
    rw [if_neg (fun h => e h.symm)]
  ·rw [List.getElem?_eq_none (by simp; omega)]
   by_cases e : j = q
   ·rw [if_pos e, if_neg (by omega)]; rfl
   ·rw [if_neg e]; rfl
 ·rw [upd_other _ _ _ _ (by intro e; cases e)]; rfl
end
/-- How many clocks are told. -/
def clQ (s : Syst) (l : List Ev) : Nat := if clE s l = 0 then l.length else 0
def clC (s : Syst) (l : List Ev) : Nat → List Int := fun j => if clE s l = 0 then (if j < l.length then clL s l 0 (Tr.rnC l) j else []) else []
theorem clE_ok {s : Syst} {l : List Ev} (h : clE s l = 0) : l.length ≤ 40000 ∧ Tr.rnC l ≤ 512 := by
 have h1 : (Tr.vR s l).2.2 = 0 := by
  unfold clE at h
  split at h
  ·assumption
  ·exact h
 have h2 := Tr.vR_ok h1
 refine ⟨h2.2.1, ?_⟩
 have := Tr.rnC_le l.length (Nat.le_refl _) h2.2.2.1
 rw [List.take_length] at this
 exact this
theorem clQ_le (s : Syst) (l : List Ev) : clQ s l ≤ 40000 := by
 unfold clQ
 split
 ·rename_i h; exact (clE_ok h).1
 ·omega
theorem clC_len (s : Syst) (l : List Ev) (j : Nat) : (clC s l j).length ≤ 512 := by
 unfold clC
 split
 ·rename_i h
  split
  ·rw [clL_len]; exact (clE_ok h).2
  ·simp
 ·simp
/-- What both sides tell. -/
def ClU (w : World) (s : Syst) (l : List Ev) : Ending → World → Prop := fun e w' => ∃ B hd vs, e = .returned (.tuple #[hd, .int .i64 (clE s l)]) ∧ w.heap.size ≤ B ∧ LL w' B (clQ s l) hd vs vs (clC s l) ∧ Below w.heap.size w w'
theorem cl_un {s : Syst} {l : List Ev} {w : World} {e : Ending} {w' : World} (h : (clE s l ≠ 0 → e = .returned (.tuple #[.slice none 0 0, .int .i64 (clE s l)])) ∧ (clE s l = 0 → ∃ o G ag hs v, e = .returned (.tuple #[v Oc.li, .int .i64 0]) ∧ w.heap.size ≤ o.heap.size ∧ CM o w' G l.length (fun j => if j < l.length then clL s l 0 (Tr.rnC l) j else []) ag hs v) ∧ Below w.heap.size w w') : ClU w s l e w' := by
 obtain ⟨h1, h2, h3⟩ := h
 by_cases he : clE s l = 0
 ·obtain ⟨o, G, ag, hs, v, rfl, h4, h5⟩ := h2 he
  have h6 := LL.of h5
  have e1 : clQ s l = l.length := if_pos he
  have e2 : clC s l = (fun j => if j < l.length then clL s l 0 (Tr.rnC l) j else []) := by
   funext j
   exact if_pos he
  refine ⟨o.heap.size, v Oc.li, fun j => v (Oc.cl j), by rw [he], h4, ?_, h3⟩
  rw [e1, e2]
  exact h6
 ·have e1 : clQ s l = 0 := if_neg he
  have e2 : clC s l = (fun _ => []) := by
   funext j
   exact if_neg he
  refine ⟨w.heap.size, .slice none 0 0, fun _ => .slice none 0 0, h1 he, Nat.le_refl _, ?_, h3⟩
  rw [e1, e2]
  exact LL.nil0 _ _
theorem ptclocksU (s : Syst) (pa : Option Addr) (pc : Nat) (ra : Option Addr) (rc : Nat) (la : Option Addr) (lc : Nat) (l : List Ev) (w : World) (hs : SyI w s pa ra) (hl : EvI w la lc l) : Calls Try.prog 11 #[.agg #[.slice pa s.progs.length pc, .slice ra s.rooms.length rc, .int .i64 s.groups, .int .i64 s.locks, .int .i64 s.cells], .slice la l.length lc] w (ClU w s l) := (ptclocks s pa pc ra rc la lc l w hs hl).mono (fun _ _ h => cl_un h)
theorem rtclocksU (s : Syst) (pa : Option Addr) (pc : Nat) (ra : Option Addr) (rc : Nat) (la : Option Addr) (lc : Nat) (l : List Ev) (w : World) (hs : SyI w s pa ra) (hl : EvI w la lc l) : Calls Try.prog 12 #[.agg #[.slice pa s.progs.length pc, .slice ra s.rooms.length rc, .int .i64 s.groups, .int .i64 s.locks, .int .i64 s.cells], .slice la l.length lc] w (ClU w s l) := (rtclocks s pa pc ra rc la lc l w hs hl).mono (fun _ _ h => cl_un h)
/-- A new block, read as numbers of a list. -/
theorem cells_new9 (w : World) (xs : List Value) (t : TypeId) : ∀ j u, xs[j]? = some u → (w.alloc (.cells xs.toArray t)).cell? ((⟨w.heap.size, 0, none⟩ : Addr).add j) = some u := by
 intro j u h
 have hadd : (⟨w.heap.size, 0, Option.none⟩ : Addr).add j = ⟨w.heap.size, j, Option.none⟩ := by unfold Addr.add; split <;> simp_all
 rw [hadd, cell_of_row _ _ _ _ _ (0, 0) (heap_alloc_new w _)]
 rw [List.getElem?_toArray]
 exact h
end LW
end Go.Proofs.Ytlahcdbgggdldaa
