/-
 The law on ways.
-/
import Derived.Test.YthcndgnpmefefaaWtAw
import Derived.Test.YthcndgnpmefefaaAlw
import Derived.Test.YthcndgnpmefefaaJnAw
namespace Go.Proofs.Ythcndgnpmefefaa
open Go.RowKit
set_option linter.unusedVariables false
set_option linter.unusedSimpArgs false
namespace LW
open Mc
set_option maxRecDepth 100000 in
set_option maxHeartbeats 40000000 in
theorem waysW (s : Syst) (pa : Option Addr) (pc : Nat) (ra : Option Addr) (rc : Nat) (la : Option Addr) (lc : Nat) (l : List Ev) (ai aj ak : Int) (w : World) (hs : SyI w s pa ra) (hl : EvI w la lc l) (hz : l.length ≤ 3518437208780) (hi : i64 ai) (hj : i64 aj) (hk : i64 ak) :
  Calls Try.prog 6 #[.agg (syC s pa pc ra rc), .slice la l.length lc, .agg #[.int .i64 ai, .int .i64 aj, .int .i64 ak]] w fun e w' => e = .returned (.bool true) ∧ Below w.heap.size w w' := by
 unfold syC
 have HEd : Hid (∀ W, Below w.heap.size w W → Calls Try.prog 8 #[.agg #[.slice pa s.progs.length pc, .slice ra s.rooms.length rc, .int .i64 s.groups, .int .i64 s.locks, .int .i64 s.cells], .slice la l.length lc] W (EdU W s l)) := fun W hW => ptedges s pa pc ra rc la lc l W (hs.below hW) (hl.below hW)
 have HWy : Hid (∀ W, Below w.heap.size w W → Calls Try.prog 16 #[.agg #[.slice pa s.progs.length pc, .slice ra s.rooms.length rc, .int .i64 s.groups, .int .i64 s.locks, .int .i64 s.cells], .slice la l.length lc, .int .i64 ai, .int .i64 aj] W fun e w' => ∃ v r, e = .returned (.tuple #[v, .int .i64 (beE s l ai aj)]) ∧ (beE s l ai aj = 0 → WyR s l ai.toNat aj.toNat r) ∧ r.length ≤ 40000 ∧ w'.ownsRow W.heap.size 3 1 v r.length (r.map (Value.int .i64)) ∧ Below W.heap.size W w') := fun W hW => (ptway s pa pc ra rc la lc l ai aj W (hs.below hW) (hl.below hW)).mono fun e w' h => by
  unfold WyU at h
  by_cases hc : beE s l ai aj = 0
  ·obtain ⟨v, r, e1, q1, q2, q3⟩ := h.2.1 hc
   exact ⟨v, r, by rw [e1, hc], fun _ => q1, q2, q3, h.2.2⟩
  ·exact ⟨_, [], h.1 hc, fun x => absurd x hc, by decide, World.ownsRow_nil _ _ _ _, h.2.2⟩
 have HBe : Hid (∀ W, Below w.heap.size w W → Calls Try.prog 14 #[.agg #[.slice pa s.progs.length pc, .slice ra s.rooms.length rc, .int .i64 s.groups, .int .i64 s.locks, .int .i64 s.cells], .slice la l.length lc, .int .i64 ai, .int .i64 aj] W fun e w' => e = .returned (.tuple #[.bool (beA s l ai aj), .int .i64 (beE s l ai aj)]) ∧ Below W.heap.size W w') := fun W hW => ptbefore s pa pc ra rc la lc l ai aj W (hs.below hW) (hl.below hW)
 have HOk : Hid (∀ r : List Int, egE s l = 0 → beE s l ai aj = 0 → WyR s l ai.toNat aj.toNat r → (beA s l ai aj = true → 2 ≤ r.length ∧ r.getD 0 0 = ai ∧ r.getD (r.length - 1) 0 = aj ∧ ∀ m, m + 1 < r.length → (r.getD m 0, r.getD (m + 1) 0) ∈ egC s l) ∧ (beA s l ai aj = false → r = [])) := fun r h1 h2 h3 => ways_ok h1 h2 h3
 have HEl := TW.hide (egC_len s l)
 unfold EdU at HEd
 generalize egC s l = E at *
 generalize egE s l = E1 at *
 generalize beE s l ai aj = B1 at *
 generalize beA s l ai aj = isB at *
 clear hs hl hz hi hj hk
 have NS0 : Hid (((w.alloc (.cells #[.slice pa s.progs.length pc, .slice ra s.rooms.length rc, .int .i64 s.groups, .int .i64 s.locks, .int .i64 s.cells] 25)).alloc (.cells #[.int .i64 ai, .int .i64 aj, .int .i64 ak] 45)).heap[w.heap.size]? = some (.cells #[.slice pa s.progs.length pc, .slice ra s.rooms.length rc, .int .i64 s.groups, .int .i64 s.locks, .int .i64 s.cells] 25 (0, 0))) := blk_alloc (heap_alloc_new w _)
 have NA0 : Hid (((w.alloc (.cells #[.slice pa s.progs.length pc, .slice ra s.rooms.length rc, .int .i64 s.groups, .int .i64 s.locks, .int .i64 s.cells] 25)).alloc (.cells #[.int .i64 ai, .int .i64 aj, .int .i64 ak] 45)).heap[w.heap.size + 1]? = some (.cells #[.int .i64 ai, .int .i64 aj, .int .i64 ak] 45 (0, 0))) := by
  have h1 := heap_alloc_new (w.alloc (.cells #[.slice pa s.progs.length pc, .slice ra s.rooms.length rc, .int .i64 s.groups, .int .i64 s.locks, .int .i64 s.cells] 25)) (.cells #[.int .i64 ai, .int .i64 aj, .int .i64 ak] 45)
  have h2 : (w.alloc (.cells #[.slice pa s.progs.length pc, .slice ra s.rooms.length rc, .int .i64 s.groups, .int .i64 s.locks, .int .i64 s.cells] 25)).heap.size = w.heap.size + 1 := by simp
  rw [h2] at h1
  exact h1
 have NB0 : Hid (Below w.heap.size w ((w.alloc (.cells #[.slice pa s.progs.length pc, .slice ra s.rooms.length rc, .int .i64 s.groups, .int .i64 s.locks, .int .i64 s.cells] 25)).alloc (.cells #[.int .i64 ai, .int .i64 aj, .int .i64 ak] 45))) := ((Below.refl _ _).alloc (Nat.le_refl _) _).alloc (by simp) _
 go_enter Try.func6, Try.ntmps6
 refine wp_seq_k fun K hK => ?_
 have HK := TW.hide hK
 clear hK
 go_wp2
 refine HK.out _ _ ?_
 clear HK K
 generalize World.alloc _ _ = X at *
 generalize w.heap.size + 1 = ga at *
 have z0 : X.cell? ⟨ga, 0, none⟩ = some (.int .i64 ai) := blk_cell NA0.out rfl
 have z1 : X.cell? ⟨ga, 1, none⟩ = some (.int .i64 aj) := blk_cell NA0.out rfl
 have z2 : X.cell? ⟨ga, 2, none⟩ = some (.int .i64 ak) := blk_cell NA0.out rfl
 refine wp_seq_k fun K hK => ?_
 have HK := TW.hide hK
 clear hK
 go_wp2
 go_quiet (fail)
 go_wp2
 refine HK.out _ _ ?_
 clear HK K
 have hq : Below X.heap.size X (X.drewN nq) := below_drewN (Below.refl _ _) _
 have NS := TW.hide (blk_keep NS0.out hq)
 have NBx : Hid (Below w.heap.size w (X.drewN nq)) := NB0.out.trans (hq.mono NB0.out.size)
 clear hq z0 z1 z2 NS0 NA0 NB0
 generalize X.drewN nq = X1 at *
 refine wp_seq_k fun K hK => ?_
 have HK := TW.hide hK
 clear hK
 go_wp2_with fail
 refine (lalive X1).mono ?_
 rintro e1 W1 ⟨rfl, hb⟩
 have NB1 : Hid (Below w.heap.size w W1) := NBx.out.trans (hb.mono NBx.out.size)
 have NS1 := TW.hide (blk_keep NS.out hb)
 clear hb NBx NS
 go_wp2
 refine HK.out _ _ ?_
 clear HK
 obtain ⟨y0, y1, y2, y3, y4⟩ := cellsY5 NS1.out
 refine wp_seq_k fun K hK => ?_
 have HK := TW.hide hK
 clear hK
 go_wp2_with fail
 refine (HEd.out W1 NB1.out).mono ?_
 rintro e2 W2 ⟨v2, rfl, ho2, hb⟩
 have NB2 : Hid (Below w.heap.size w W2) := NB1.out.trans (hb.mono NB1.out.size)
 have NS2 := TW.hide (blk_keep NS1.out hb)
 have HO2 := TW.hide ho2
 clear hb NB1 NS1 ho2 HEd y0 y1 y2 y3 y4
 go_wp2
 refine HK.out _ _ ?_
 clear HK
 obtain ⟨y0, y1, y2, y3, y4⟩ := cellsY5 NS2.out
 refine wp_seq_k fun K hK => ?_
 have HK := TW.hide hK
 clear hK
 go_wp2_with fail
 refine (HWy.out W2 NB2.out).mono ?_
 rintro e3 W3 ⟨v3, r, rfl, hwr, hrl, ho3, hb⟩
 have NB3 : Hid (Below w.heap.size w W3) := NB2.out.trans (hb.mono NB2.out.size)
 have NS3 := TW.hide (blk_keep NS2.out hb)
 have HO23 := TW.hide (own_belowI HO2.out hb)
 have HO3 := TW.hide ho3
 have HWr := TW.hide hwr
 have HRl := TW.hide hrl
 clear hb NB2 NS2 ho3 hwr hrl HWy HO2 y0 y1 y2 y3 y4
 go_wp2
 refine HK.out _ _ ?_
 clear HK
 obtain ⟨y0, y1, y2, y3, y4⟩ := cellsY5 NS3.out
 refine wp_seq_k fun K hK => ?_
 have HK := TW.hide hK
 clear hK
 go_wp2_with fail
 refine (HBe.out W3 NB3.out).mono ?_
 rintro e4 W4 ⟨rfl, hb⟩
 have NB4 : Hid (Below w.heap.size w W4) := NB3.out.trans (hb.mono NB3.out.size)
 have HO24 := TW.hide (own_belowI HO23.out hb)
 have HO34 := TW.hide (own_belowI HO3.out hb)
 clear hb NB3 NS3 HBe HO23 HO3 y0 y1 y2 y3 y4
 go_wp2
 refine HK.out _ _ ?_
 clear HK
 by_cases he : E1 = 0
 ·subst he
  by_cases hb1 : B1 = 0
  ·subst hb1
   obtain ⟨ok1, ok2⟩ := HOk.out r rfl rfl (HWr.out rfl)
   cases isB with
   | false =>
    have hr0 : r = [] := ok2 rfl
    subst hr0
    obtain ⟨va, vc, e5⟩ := own_openE HO34.out
    subst e5
    clear ok1 ok2 HOk
    go_wp2
    go_ret
    exact ⟨rfl, NB4.out⟩
   | true =>
    obtain ⟨h2, h3, h4, h5⟩ := ok1 rfl
    obtain ⟨rn, hrn⟩ : ∃ n, r.length = n := ⟨_, rfl⟩
    have HRn := TW.hide hrn
    have hrl : rn ≤ 40000 := by rw [← hrn]; exact HRl.out
    rw [hrn] at h2 h4 HO34
    have H5 := TW.hide h5
    obtain ⟨gr, cr, e5⟩ : ∃ gr cr, v3 = .slice (some ⟨gr, 0, none⟩) rn cr := by
     rcases own_two HO34.out with ⟨_, h9⟩ | ⟨g9, c9, e9, _⟩
     ·omega
     ·exact ⟨g9, c9, e9⟩
    subst e5
    have HCr : Hid (∀ W, Below W4.heap.size W4 W → ∀ m, m < rn → W.cell? ⟨gr, m, none⟩ = some (.int .i64 (r.getD m 0))) := fun W hW m hm => by
     have hmx : m < r.length := by rw [HRn.out]; exact hm
     have h9 := HO34.out.cells (g := gr) rfl m (.int .i64 (r.getD m 0)) (by rw [List.getElem?_map, List.getElem?_eq_getElem hmx, List.getD_eq_getElem?_getD, List.getElem?_eq_getElem hmx]; rfl)
     rw [addr0] at h9
     exact keepC hW h9
    have c0 := HCr.out W4 (Below.refl _ _) 0 (by omega)
    have c1 := HCr.out W4 (Below.refl _ _) (rn - 1) (by omega)
    rw [h3] at c0
    rw [h4] at c1
    have k2 : ¬ (rn : Int) < 2 := by omega
    have k3 : IntKind.i64.wrap ((rn : Int) - 1) = ((rn - 1 : Nat) : Int) := by rw [IntKind.wrap_i64]; omega
    have k4 : (0 : Int) ≤ ((rn - 1 : Nat) : Int) := by omega
    have k5 : ((rn - 1 : Nat) : Int) < (rn : Int) := by omega
    have k6 : (0 : Int) < (rn : Int) := by omega
    have kx : ∀ x : Int, (x != x) = false := fun x => by simp
    have kxi := kx ai
    have kxj := kx aj
    have H2 : Hid (2 ≤ rn) := h2
    have H34 : Hid (r.getD 0 0 = ai ∧ r.getD (rn - 1) 0 = aj) := ⟨h3, h4⟩
    clear hrn h5 h3 h4 h2 kx ok1 ok2 HOk
    generalize hrp : rn - 1 = rp at *
    refine wp_seq_k fun Ka hKa => ?_
    have HKa := TW.hide hKa
    clear hKa
    go_wp2
    refine HKa.out _ _ ?_
    clear HKa
    refine wp_seq_k fun Kb hKb => ?_
    have HKb := TW.hide hKb
    clear hKb
    go_wp2
    refine HKb.out _ _ ?_
    clear HKb
    refine wp_seq_k fun Kc hKc => ?_
    have HKc := TW.hide hKc
    clear hKc
    go_wp2
    refine HKc.out _ _ ?_
    clear HKc c0 c1 k2 k3 k4 k5 k6 kxi kxj
    clear hrp
    obtain ⟨en, hen⟩ : ∃ n, E.length = n := ⟨_, rfl⟩
    have HEn := TW.hide hen
    have hel : en ≤ 65536 := by rw [← hen]; exact HEl.out
    rw [hen] at HO24
    obtain ⟨ea, ec, e6⟩ := own_openE HO24.out
    subst e6
    have HEc : Hid (∀ W, Below W4.heap.size W4 W → ∀ m, m < en → ∃ ge, ea = some ⟨ge, 0, none⟩ ∧ W.cell? ⟨ge, m * 2, none⟩ = some (.int .i64 (E.getD m (0, 0)).1) ∧ W.cell? ⟨ge, m * 2 + 1, none⟩ = some (.int .i64 (E.getD m (0, 0)).2)) := fun W hW m hm => by
     have hmx : m < E.length := by rw [HEn.out]; exact hm
     rcases HO24.out.2 with ⟨_, h0⟩ | ⟨ge, cap, cur, e, _⟩
     ·omega
     ·injection e with e1 _ _
      subst e1
      obtain ⟨q1, q2⟩ := edC_atQ E m hmx
      have h8 := HO24.out.cells (g := ge) rfl (m * 2) _ q1
      have h9 := HO24.out.cells (g := ge) rfl (m * 2 + 1) _ q2
      rw [addr0] at h8 h9
      exact ⟨ge, rfl, keepC hW h8, keepC hW h9⟩
    clear hen
    refine wp_seq_k fun Kd hKd => ?_
    have HKd := TW.hide hKd
    clear hKd
    go_wp2
    go_loopw [15] (fun kv wr => ∃ k : Nat, 1 ≤ k ∧ k ≤ rn ∧ kv = .int .i64 (k : Int) ∧ Hid (Below W4.heap.size W4 wr)) (fun kv wr => rn - (intOf kv).toNat)
    case atStart => exact ⟨1, by omega, by omega, rfl, Below.refl _ _⟩
    case round =>
     obtain ⟨k, hk1, hkr, rfl, HW⟩ := hrel
     by_cases hlt : k < rn
     ·have q1 : (k : Int) < (rn : Int) := by omega
      have q0 : (0 : Int) ≤ (k : Int) := by omega
      have HLk : Hid (k < rn) := hlt
      have HL1 : Hid (1 ≤ k) := hk1
      obtain ⟨kp, hkp⟩ : ∃ kp, kp + 1 = k := ⟨k - 1, by omega⟩
      have hmem := H5.out kp (by rw [HRn.out, hkp]; exact hlt)
      rw [hkp] at hmem
      obtain ⟨p0, hp0⟩ : ∃ p0, r.getD kp 0 = p0 := ⟨_, rfl⟩
      obtain ⟨u0, hu0⟩ : ∃ u0, r.getD k 0 = u0 := ⟨_, rfl⟩
      rw [hp0, hu0] at hmem
      have HFd : Hid (fdE E p0 u0 en = true) := by
       have h9 := fdE_all E p0 u0 hmem
       rw [HEn.out] at h9
       exact h9
      have hkpl : kp < rn := by omega
      have HC1 : Hid (∀ W, Below W4.heap.size W4 W → W.cell? ⟨gr, kp, none⟩ = some (.int .i64 p0) ∧ W.cell? ⟨gr, k, none⟩ = some (.int .i64 u0)) := fun W hW => by
       rw [← hp0, ← hu0]
       exact ⟨HCr.out W hW kp hkpl, HCr.out W hW k HLk.out⟩
      have qw : IntKind.i64.wrap ((k : Int) - 1) = (kp : Int) := by rw [IntKind.wrap_i64]; omega
      have qp0 : (0 : Int) ≤ (kp : Int) := by omega
      have qp1 : (kp : Int) < (rn : Int) := by omega
      clear hkpl hkp
      clear hmem hp0 hu0 hlt hk1 hkr
      refine wp_seq_k fun Ke hKe => ?_
      have HKe := TW.hide hKe
      clear hKe
      go_wp2
      refine HKe.out _ _ ?_
      clear HKe
      refine wp_seq_k fun Kf hKf => ?_
      have HKf := TW.hide hKf
      clear hKf
      refine wp_block ?_
      refine wp_seq_k fun Kg hKg => ?_
      have HKg := TW.hide hKg
      clear hKg
      go_wp2
      refine HKg.out _ _ ?_
      clear HKg
      refine wp_seq_k fun Kh hKh => ?_
      have HKh := TW.hide hKh
      clear hKh
      go_wp2
      go_loopw [16, 17] (fun fv xv wk => ∃ x : Nat, x ≤ en ∧ xv = .int .i64 (x : Int) ∧ fv = .bool (fdE E p0 u0 x) ∧ Hid (Below W4.heap.size W4 wk)) (fun fv xv wk => en - (intOf xv).toNat)
      case atStart => exact ⟨0, by omega, rfl, rfl, HW⟩
      case round =>
       clear HW
       obtain ⟨x, hx, rfl, rfl, HW⟩ := hrel
       obtain ⟨wk, rfl⟩ : ∃ y, y = wr := ⟨_, rfl⟩
       by_cases hxl : x < en
       ·have x1 : (x : Int) < (en : Int) := by omega
        have x0 : (0 : Int) ≤ (x : Int) := by omega
        have HLx : Hid (x < en) := hxl
        have HSx := TW.hide (fdE_succ E p0 u0 x (by rw [HEn.out]; exact hxl))
        obtain ⟨ge, rfl, d0, d1⟩ := HEc.out wk HW.out x hxl
        obtain ⟨c0, c1⟩ := HC1.out wk HW.out
        obtain ⟨f0, hf0⟩ : ∃ f0, (E.getD x (0, 0)).1 = f0 := ⟨_, rfl⟩
        obtain ⟨t0, ht0⟩ : ∃ t0, (E.getD x (0, 0)).2 = t0 := ⟨_, rfl⟩
        rw [hf0] at d0 HSx
        rw [ht0] at d1 HSx
        clear hf0 ht0 hxl hx
        refine wp_seq_k fun Ki hKi => ?_
        have HKi := TW.hide hKi
        clear hKi
        go_wp2
        refine HKi.out _ _ ?_
        clear HKi
        refine wp_seq_k fun Kj hKj => ?_
        have HKj := TW.hide hKj
        clear hKj
        refine wp_block ?_
        by_cases h1 : f0 = p0
        ·have k1 : (f0 == p0) = true := by simp [h1]
         by_cases h2 : t0 = u0
         ·have k2 : (t0 == u0) = true := by simp [h2]
          have HSt : Hid (fdE E p0 u0 (x + 1) = true) := by show _ = _; rw [HSx.out, decide_eq_true h1, decide_eq_true h2]; simp
          clear h1 h2 HSx
          refine wp_seq_k fun Kl hKl => ?_
          have HKl := TW.hide hKl
          clear hKl
          go_wp2
          go_quiet (fail)
          go_wp2
          refine HKl.out _ _ ?_
          have hq : Below wk.heap.size wk (wk.drewN nq) := below_drewN (Below.refl _ _) _
          have HWn : Hid (Below W4.heap.size W4 (wk.drewN nq)) := HW.out.trans (hq.mono HW.out.size)
          clear hq c0 c1 d0 d1 k1 HW
          generalize wk.drewN nq = wn at *
          go_wp2
          refine HKj.out _ _ ?_
          go_wp2
          go_roundw
          case rel => exact ⟨x + 1, HLx.out, by go_num, by rw [HSt.out], HWn⟩
          case measure => simp [intOf]; have := HLx.out; omega
         ·have k2 : (t0 == u0) = false := by simp [h2]
          have HSt : Hid (fdE E p0 u0 (x + 1) = fdE E p0 u0 x) := by show _ = _; rw [HSx.out, decide_eq_false h2]; simp
          clear h1 h2 HSx
          refine wp_seq_k fun Kl hKl => ?_
          have HKl := TW.hide hKl
          clear hKl
          go_wp2
          go_quiet (fail)
          go_wp2
          refine HKl.out _ _ ?_
          have hq : Below wk.heap.size wk (wk.drewN nq) := below_drewN (Below.refl _ _) _
          have HWn : Hid (Below W4.heap.size W4 (wk.drewN nq)) := HW.out.trans (hq.mono HW.out.size)
          clear hq c0 c1 d0 d1 k1 HW
          generalize wk.drewN nq = wn at *
          go_wp2
          refine HKj.out _ _ ?_
          go_wp2
          go_roundw
          case rel => exact ⟨x + 1, HLx.out, by go_num, by rw [HSt.out], HWn⟩
          case measure => simp [intOf]; have := HLx.out; omega
        ·have k1 : (f0 == p0) = false := by simp [h1]
         have HSt : Hid (fdE E p0 u0 (x + 1) = fdE E p0 u0 x) := by show _ = _; rw [HSx.out, decide_eq_false h1]; simp
         clear h1 HSx
         refine wp_seq_k fun Kl hKl => ?_
         have HKl := TW.hide hKl
         clear hKl
         go_wp2
         go_quiet (fail)
         go_wp2
         refine HKl.out _ _ ?_
         have hq : Below wk.heap.size wk (wk.drewN nq) := below_drewN (Below.refl _ _) _
         have HWn : Hid (Below W4.heap.size W4 (wk.drewN nq)) := HW.out.trans (hq.mono HW.out.size)
         clear hq c0 c1 d0 d1 k1 HW
         generalize wk.drewN nq = wn at *
         go_wp2
         refine HKj.out _ _ ?_
         go_wp2
         go_roundw
         case rel => exact ⟨x + 1, HLx.out, by go_num, by rw [HSt.out], HWn⟩
         case measure => simp [intOf]; have := HLx.out; omega
       ·obtain rfl : x = en := by omega
        have x1 : ¬ (x : Int) < (x : Int) := by omega
        rw [HFd.out]
        clear hxl hx
        go_wp2
        refine HKh.out _ _ ?_
        go_wp2
        refine HKf.out _ _ ?_
        go_wp2
        go_roundw
        case rel => exact ⟨k + 1, by omega, HLk.out, by go_num, HW⟩
        case measure => simp [intOf]; have := HLk.out; omega
     ·obtain rfl : k = rn := by omega
      have q1 : ¬ (k : Int) < (k : Int) := by omega
      have HR9 : Hid (Below w.heap.size w wr) := NB4.out.trans (HW.out.mono NB4.out.size)
      clear hlt hk1 hkr
      go_wp2
      refine HKd.out _ _ ?_
      go_wp2
      go_ret
      exact ⟨rfl, HR9.out⟩
  ·have kb : (B1 != 0) = true := by simp [hb1]
   clear hb1 HOk
   go_wp2
   go_ret
   exact ⟨rfl, NB4.out⟩
 ·have ke : (E1 != 0) = true := by simp [he]
  clear he HOk
  go_wp2
  go_ret
  exact ⟨rfl, NB4.out⟩
end LW
end Go.Proofs.Ythcndgnpmefefaa
