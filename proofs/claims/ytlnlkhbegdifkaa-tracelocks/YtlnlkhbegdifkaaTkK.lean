/-
  The document's Held and Guards; lists that are alike.
-/
import Derived.Test.YtlnlkhbegdifkaaTkJ
namespace Go.Proofs.Ytlnlkhbegdifkaa
open Go.RowKit
set_option linter.unusedVariables false
set_option linter.unusedSimpArgs false
namespace LW
open Mc
theorem nr_own' {w : World} {B : Nat} {v : Value} {l : List Int} (h : w.ownsRow B 3 1 v l.length (l.map (Value.int .i64))) : ∃ a c, v = .slice a l.length c ∧ NR w a l := by
  obtain ⟨a, c, e, h2⟩ := own_read1 0 h rfl
  refine ⟨a, c, e, ?_⟩
  rcases h2 with h2 | ⟨b, e2, hc⟩
  · exact .inl h2
  · exact .inr ⟨b, 0, e2, fun j hj => by rw [Nat.zero_add]; exact hc j hj⟩
set_option maxRecDepth 100000 in
set_option maxHeartbeats 4000000 in
theorem rtheld (s : Syst) (pa : Option Addr) (pc : Nat) (ra : Option Addr) (rc : Nat) (la : Option Addr) (lc : Nat) (l : List Ev) (i : Int) (w : World) (hs : SyI w s pa ra) (hl : EvI w la lc l) :
    Calls Try.prog 11 #[.agg #[.slice pa s.progs.length pc, .slice ra s.rooms.length rc, .int .i64 s.groups, .int .i64 s.locks, .int .i64 s.cells], .slice la l.length lc, .int .i64 i] w fun e w' => ∃ a c, e = .returned (.tuple #[.slice a (hdA s l i).length c, .int .i64 (hdE s l i)]) ∧ NR w' a (hdA s l i) ∧ Below w.heap.size w w' := by
  obtain ⟨POST, hP⟩ : ∃ Q : Ending → World → Prop, Q = fun e w' => ∃ a c, e = .returned (.tuple #[.slice a (hdA s l i).length c, .int .i64 (hdE s l i)]) ∧ NR w' a (hdA s l i) ∧ Below w.heap.size w w' := ⟨_, rfl⟩
  obtain ⟨va, vn, ve, hV⟩ : ∃ a n e, Tr.vR s l = (a, n, e) := ⟨_, _, _, rfl⟩
  have HRd : Hid (∀ W, Below w.heap.size w W → Calls Try.prog 7 #[.agg #[.slice pa s.progs.length pc, .slice ra s.rooms.length rc, .int .i64 s.groups, .int .i64 s.locks, .int .i64 s.cells], .slice la l.length lc] W fun e w' => e = .returned (.tuple #[.int .i64 va, .int .i64 vn, .int .i64 ve]) ∧ Below W.heap.size W w') := fun W hW => (rtvalid s pa pc ra rc la lc l W (hs.below hW) (hl.below hW)).mono (fun e w' h => by rw [hV] at h; exact h)
  have HOk : Hid (ve = 0 → Ok s ∧ l.length ≤ 40000 ∧ Tr.Gd s l l.length) := fun h => by
    have h2 := Tr.vR_ok (s := s) (l := l) (by rw [hV]; exact h)
    exact ⟨h2.1, h2.2.1, h2.2.2.1⟩
  have HPe : Hid (ve ≠ 0 → ∀ W, Below w.heap.size w W → POST (.returned (.tuple #[.slice none 0 0, .int .i64 ve])) W) := fun h W hW => by
    rw [hP]
    have h1 : hdE s l i = ve := by unfold hdE; rw [hV]; exact if_neg h
    have h2 : hdA s l i = [] := by unfold hdA; rw [h1, if_neg h]
    rw [h1, h2]
    exact ⟨none, 0, rfl, .inl rfl, hW⟩
  have HPa : Hid (ve = 0 → ¬ (0 ≤ i ∧ i < (l.length : Int)) → ∀ W, Below w.heap.size w W → POST (.returned (.tuple #[.slice none 0 0, .int .i64 1])) W) := fun h hi W hW => by
    rw [hP]
    have h1 : hdE s l i = 1 := by unfold hdE; rw [hV]; dsimp only; rw [if_pos h, if_neg hi]
    have h2 : hdA s l i = [] := by unfold hdA; rw [h1]; exact if_neg (by decide)
    rw [h1, h2]
    exact ⟨none, 0, rfl, .inl rfl, hW⟩
  have HPo : Hid (ve = 0 → ∀ (k : Nat), i = (k : Int) → k < l.length → ∀ W B v, W.ownsRow B 3 1 v (hoL s.locks.toNat (l.take k) (Tr.ev l k).who).length ((hoL s.locks.toNat (l.take k) (Tr.ev l k).who).map (Value.int .i64)) → Below w.heap.size w W → POST (.returned (.tuple #[v, .int .i64 0])) W) := fun h k e hk W B v hN hW => by
    rw [hP]
    have h1 : hdE s l i = 0 := by unfold hdE; rw [hV]; dsimp only; rw [if_pos h, if_pos (by omega)]
    have h2 : hdA s l i = hoL s.locks.toNat (l.take k) (Tr.ev l k).who := by unfold hdA; rw [h1, if_pos rfl, e]; rfl
    rw [h1, h2]
    obtain ⟨a, c, rfl, hr⟩ := nr_own' hN
    exact ⟨a, c, rfl, hr, hW⟩
  rw [← hP]
  have HEw := TW.hide hl
  clear hP hs hl hV
  have hA : Below w.heap.size w (w.alloc (.cells #[.slice pa s.progs.length pc, .slice ra s.rooms.length rc, .int .i64 s.groups, .int .i64 s.locks, .int .i64 s.cells] 25)) := (Below.refl _ _).alloc (Nat.le_refl _) _
  have N1 : Hid ((w.alloc (.cells #[.slice pa s.progs.length pc, .slice ra s.rooms.length rc, .int .i64 s.groups, .int .i64 s.locks, .int .i64 s.cells] 25)).heap[w.heap.size]? = some (.cells #[.slice pa s.progs.length pc, .slice ra s.rooms.length rc, .int .i64 s.groups, .int .i64 s.locks, .int .i64 s.cells] 25 (0, 0))) := heap_alloc_new w _
  have NB := TW.hide hA
  clear hA
  go_enter Try.func11, Try.ntmps11
  refine wp_seq_k fun K hK => ?_
  have HK := TW.hide hK
  clear hK
  go_wp2
  refine HK.out _ _ ?_
  clear HK K
  generalize w.alloc _ = X at *
  obtain ⟨s0, s1, s2, s3, s4⟩ := cellsY5 N1.out
  go_wp2_with fail
  refine (HRd.out X NB.out).mono ?_
  rintro e1 W1 ⟨rfl, hb⟩
  have NB1 : Hid (Below w.heap.size w W1) := NB.out.trans (hb.mono NB.out.size)
  have NS := TW.hide (blk_keep N1.out hb)
  clear hb NB N1 s0 s1 s2 s3 s4 HRd
  obtain ⟨s0, s1, s2, s3, s4⟩ := cellsY5 NS.out
  by_cases he : ve = 0
  · obtain ⟨ho, hn, hg⟩ := HOk.out he
    have hL : s.locks = (s.locks.toNat : Int) := by have := ho.l1; omega
    have hL6 : s.locks.toNat ≤ 64 := by have := ho.l1; omega
    have HIn : Hid (∀ W, Calls Try.prog 20 #[.int .i64 i, .int .i64 (l.length : Int)] W fun e w' => e = .returned (.bool (decide (0 ≤ i ∧ i < (l.length : Int)))) ∧ W = w') := fun W => rinside i _ W
    have HHe : Hid (∀ k : Nat, i = (k : Int) → k < l.length → ∀ W, Below w.heap.size w W → Calls Try.prog 21 #[.agg #[.slice pa s.progs.length pc, .slice ra s.rooms.length rc, .int .i64 s.groups, .int .i64 s.locks, .int .i64 s.cells], .slice la l.length lc, .int .i64 (k : Int)] W fun e w' => ∃ v, e = .returned v ∧ w'.ownsRow W.heap.size 3 1 v (hoL s.locks.toNat (l.take k) (Tr.ev l k).who).length ((hoL s.locks.toNat (l.take k) (Tr.ev l k).who).map (Value.int .i64)) ∧ Below W.heap.size W w') := fun k _ hk W hW => rholds s pa pc ra rc la lc l s.locks.toNat k W (HEw.out.below hW) hk hn hL hL6 (hg k hk).w0
    have HPa' := TW.hide (HPa.out he)
    have HPo' := TW.hide (HPo.out he)
    subst he
    clear ho hn hg hL hL6 HOk HPe HPa HPo HEw
    go_wp2_with fail
    refine (HIn.out W1).mono ?_
    rintro e3 W3 ⟨rfl, rfl⟩
    by_cases hi : 0 ≤ i ∧ i < (l.length : Int)
    · obtain ⟨k, rfl⟩ : ∃ k : Nat, i = (k : Int) := ⟨i.toNat, by omega⟩
      have hk : k < l.length := by omega
      have HH := TW.hide (HHe.out k rfl hk W1 NB1.out)
      have HPk := TW.hide (HPo'.out k rfl hk)
      have kd : (decide ((0 : Int) ≤ (k : Int) ∧ (k : Int) < (l.length : Int))) = true := decide_eq_true hi
      rw [kd]
      clear hi hk kd HHe HPo' HPa' HIn
      go_wp2_with fail
      refine HH.out.mono ?_
      rintro e4 W4 ⟨v, rfl, hN, hb⟩
      have HR := TW.hide (HPk.out W4 _ v hN (NB1.out.trans (hb.mono NB1.out.size)))
      clear hN hb
      go_wp2
      first | exact HR.out | exact ⟨rfl, HR.out⟩
    · have kd : (decide (0 ≤ i ∧ i < (l.length : Int))) = false := decide_eq_false hi
      have HR := TW.hide (HPa'.out hi W1 NB1.out)
      rw [kd]
      clear hi kd HHe HPo' HPa' HIn
      go_wp2
      first | exact HR.out | exact ⟨rfl, HR.out⟩
  · have HR := TW.hide (HPe.out he W1 NB1.out)
    have kv : (ve != 0) = true := by simp [he]
    clear he HOk HPe HPa HPo HEw
    go_wp2
    first | exact HR.out | exact ⟨rfl, HR.out⟩
set_option maxRecDepth 100000 in
set_option maxHeartbeats 4000000 in
theorem lalikes (a b : Option Addr) (ac bc : Nat) (xs : List Int) (w : World) (h1 : NR w a xs) (h2 : NR w b xs) (hn : xs.length ≤ 9223372036854775807) :
    Calls Try.prog 12 #[.slice a xs.length ac, .slice b xs.length bc] w fun e w' => e = .returned (.bool true) ∧ Below w.heap.size w w' := by
  have HX : Hid (∀ k W, k < xs.length → Below w.heap.size w W → ∃ b1 o1 b2 o2, a = some ⟨b1, o1, none⟩ ∧ b = some ⟨b2, o2, none⟩ ∧ W.cell? ⟨b1, o1 + k, none⟩ = some (.int .i64 (xs.getD k 0)) ∧ W.cell? ⟨b2, o2 + k, none⟩ = some (.int .i64 (xs.getD k 0))) := fun k W hk hW => by
    rcases h1 with h | ⟨b1, o1, rfl, hc1⟩
    · rw [h] at hk; simp at hk
    rcases h2 with h | ⟨b2, o2, rfl, hc2⟩
    · rw [h] at hk; simp at hk
    exact ⟨b1, o1, b2, o2, rfl, rfl, keepC hW (hc1 k hk), keepC hW (hc2 k hk)⟩
  clear h1 h2
  have kn : ((xs.length : Int) != (xs.length : Int)) = false := by simp
  generalize xs.length = n at *
  go_enter Try.func12, Try.ntmps12
  go_wp2
  go_loopw [5] (fun i wr => ∃ k : Nat, k ≤ n ∧ i = .int .i64 (k : Int) ∧ Hid (Below w.heap.size w wr)) (fun i wr => n - (intOf i).toNat)
  case atStart => exact ⟨0, Nat.zero_le _, rfl, TW.hide (Below.refl _ _)⟩
  case round =>
    obtain ⟨k, hk, rfl, HB⟩ := hrel
    by_cases hlt : k < n
    · obtain ⟨b1, o1, b2, o2, rfl, rfl, x1, x2⟩ := HX.out k wr hlt HB.out
      have hk1 : (k : Int) < (n : Int) := by omega
      have hk0 : (0 : Int) ≤ (k : Int) := by omega
      have kx : (xs.getD k 0 != xs.getD k 0) = false := by simp
      generalize xs.getD k 0 = x at *
      go_wp2
      go_quiet (fail)
      go_wp2
      go_roundw
      case rel => exact ⟨k + 1, hlt, by go_num, TW.hide (below_drewN HB.out _)⟩
      case measure => simp [intOf]; omega
    · have hk1 : ¬ (k : Int) < (n : Int) := by omega
      go_wp2
      go_ret
      exact ⟨rfl, HB.out⟩
end LW
end Go.Proofs.Ytlnlkhbegdifkaa
