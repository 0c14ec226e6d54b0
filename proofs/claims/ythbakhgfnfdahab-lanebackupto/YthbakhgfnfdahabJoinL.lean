/-
  Slices of bytes that lie one behind the other in a row: what is kept of them; what Join answers (no walk yet); the sum of their lengths.
-/
import Derived.Test.YthbakhgfnfdahabDeal
import Derived.Test.YthbakhgfnfdahabPlain
import Derived.Test.YthbakhgfnfdahabSplits
namespace Go.Proofs.Ythbakhgfnfdahab
open Go.RowKit Go.ChangeShapes
set_option linter.unusedVariables false
set_option linter.unusedSimpArgs false
namespace LW
open Words
/-- From cell off of block b on lie N slices, each with its bytes. -/
structure Mb (W : World) (b off N : Nat) (A : Nat → Option Addr) (K : Nat → Nat) (ls : Nat → List Int) : Prop where
  cell : ∀ r, r < N → W.cell? ⟨b, off + r, none⟩ = some (.slice (A r) (ls r).length (K r))
  row : ∀ r, r < N → Row W (A r) (ls r)
  room : ∀ r, r < N → (ls r).length ≤ K r
  nil : ∀ r, r < N → A r = none → K r = 0
  sum : sumN (fun r => (ls r).length) N ≤ 1048576
theorem Mb.below {W W' : World} {b off N : Nat} {A : Nat → Option Addr} {K : Nat → Nat} {ls : Nat → List Int} (h : Mb W b off N A K ls) (hb : Below W.heap.size W W') : Mb W' b off N A K ls :=
  ⟨fun r hr => by rw [hb.cell (lt_of_cell (h.cell r hr))]; exact h.cell r hr, fun r hr => (h.row r hr).below hb, h.room, h.nil, h.sum⟩
theorem Mb.len {W : World} {b off N r : Nat} {A : Nat → Option Addr} {K : Nat → Nat} {ls : Nat → List Int} (h : Mb W b off N A K ls) (hr : r < N) : (ls r).length ≤ 1048576 := by
  have h1 := sumN_get (fun r => (ls r).length) N r hr
  have h2 := h.sum
  omega
/-- What Join answers. -/
def JoR (k : Int) (N : Nat) (ls : Nat → List Int) (E : Int) (zs : List Int) : Prop :=
  (nl k = 0 ∧ E = 1 ∧ zs = []) ∨ (0 < nl k ∧ ¬ (N = nl k ∧ Dealt (nl k) (bb k) ls) ∧ E = 80 ∧ zs = []) ∨ (0 < nl k ∧ (N = nl k ∧ Dealt (nl k) (bb k) ls) ∧ E = 0 ∧ zs = joL (nl k) (bb k) ls (sumN (fun r => (ls r).length) N))
theorem JoR.one {k : Int} {N : Nat} {ls : Nat → List Int} {E E' : Int} {zs zs' : List Int} (h : JoR k N ls E zs) (h' : JoR k N ls E' zs') : E = E' ∧ zs = zs' := by
  rcases h with ⟨a1, a2, a3⟩ | ⟨a1, a2, a3, a4⟩ | ⟨a1, a2, a3, a4⟩ <;> rcases h' with ⟨b1, b2, b3⟩ | ⟨b1, b2, b3, b4⟩ | ⟨b1, b2, b3, b4⟩
  · exact ⟨by omega, by rw [a3, b3]⟩
  · omega
  · omega
  · omega
  · exact ⟨by omega, by rw [a4, b4]⟩
  · exact absurd b2 a2
  · omega
  · exact absurd a2 b2
  · exact ⟨by omega, by rw [a4, b4]⟩
/-- What a call of Join gives. -/
def JoP (k : Int) (N : Nat) (ls : Nat → List Int) (w : World) (e : Ending) (w' : World) : Prop := ∃ (E : Int) (zs : List Int) (v : Value), JoR k N ls E zs ∧ e = .returned (.tuple #[v, .int .i64 E]) ∧ w'.ownsRow w.heap.size 5 1 v zs.length (vs zs) ∧ Below w.heap.size w w'
set_option maxHeartbeats 1000000 in
theorem totalOf (b off N c : Nat) (A : Nat → Option Addr) (K : Nat → Nat) (ls : Nat → List Int) (w : World) (h : Mb w b off N A K ls) (hN : N ≤ 8) :
    Calls Try.prog 16 #[.slice (some ⟨b, off, none⟩) N c] w fun e w' => e = .returned (.int .i64 (sumN (fun r => (ls r).length) N : Nat)) ∧ w = w' := by
  have hc := h.cell
  have hs := h.sum
  have hm := fun x (hx : x ≤ N) => Nat.le_trans (sumN_mono (fun r => (ls r).length) hx) hs
  have hn := fun x => show sumN (fun r => (ls r).length) (x + 1) = sumN (fun r => (ls r).length) x + (ls x).length from rfl
  have HC := TW.hide hc
  have HM := TW.hide hm
  have HN := TW.hide hn
  clear hc hm hn h hs
  go_enter Try.func16, Try.ntmps16
  go_wp2
  go_loop [8, 3] (fun i t => ∃ x : Nat, x ≤ N ∧ i = .int .i64 x ∧ t = .int .i64 (sumN (fun r => (ls r).length) x : Nat)) (fun i _ => N - (intOf i).toNat)
  case atStart => exact ⟨0, Nat.zero_le _, rfl, rfl⟩
  case round =>
    obtain ⟨x, hx, rfl, rfl⟩ := hrel
    by_cases hlt : x < N
    · have hc := HC.out x hlt
      have h1 := HM.out (x + 1) hlt
      have h2 := HN.out x
      rw [h2] at h1
      have hxI : (0 : Int) ≤ (x : Int) := Int.natCast_nonneg _
      have hxJ : (x : Int) < (N : Int) := by omega
      obtain ⟨s0, hs0⟩ : ∃ s0, sumN (fun r => (ls r).length) x = s0 := ⟨_, rfl⟩
      obtain ⟨l0, hl0⟩ : ∃ l0, (ls x).length = l0 := ⟨_, rfl⟩
      rw [hs0, hl0] at h1 h2
      rw [hs0]
      rw [hl0] at hc
      have H2 := TW.hide h2
      have ww : IntKind.i64.wrap ((s0 : Int) + (l0 : Int)) = (s0 : Int) + (l0 : Int) := by rw [IntKind.wrap_i64]; omega
      clear hs0 hl0 h2
      go_wp2
      exact ⟨⟨x + 1, by omega, by go_num, by rw [H2.out]; simp⟩, by simp [intOf]; omega⟩
    · obtain rfl : x = N := by omega
      go_wp2
      go_ret
      exact ⟨rfl, rfl⟩
theorem dealtNo (k d y : Int) (s p : Value) (al : Option Addr) (N c : Nat) (w : World) (hN : N ≠ nl k) (hM : N ≤ 1048576) :
    Calls Try.prog 10 #[.agg (shC k d y s p), .slice al N c] w fun e w' => e = .returned (.bool false) ∧ Below w.heap.size w w' := by
  have HL := TW.hide (fun W => lanes k d y s p W)
  have hne : ((N : Int) != (nl k : Int)) = true := by simp; omega
  generalize nl k = n at *
  clear hN
  unfold shC at *
  go_enter Try.func10, Try.ntmps10
  go_wp2_with fail
  refine (HL.out _).mono ?_
  rintro e w1 ⟨rfl, hb⟩
  have HB : Hid (Below w.heap.size w w1) := ((Below.refl _ _).alloc (Nat.le_refl _) _).trans (hb.mono (by simp))
  clear hb
  go_wp2
  go_ret
  exact ⟨rfl, HB.out⟩
set_option maxRecDepth 100000 in
set_option maxHeartbeats 2000000 in
theorem dealtB (k d y : Int) (s p : Value) (b off c : Nat) (A : Nat → Option Addr) (K : Nat → Nat) (ls : Nat → List Int) (w : World) (hk : k = 1 ∨ k = 2) (h : Mb w b off (nl k) A K ls) :
    Calls Try.prog 10 #[.agg (shC k d y s p), .slice (some ⟨b, off, none⟩) (nl k) c] w fun e w' => ∃ x : Bool, e = .returned (.bool x) ∧ (x = true ↔ Dealt (nl k) (bb k) ls) ∧ Below w.heap.size w w' := by
  have hn8 : nl k ≤ 8 := by unfold nl; split <;> (try split) <;> omega
  have hl := fun W => lanes k d y s p W
  have ht := fun W (hW : Below w.heap.size w W) => totalOf b off (nl k) c A K ls W (h.below hW) hn8
  have hs := h.sum
  have hlb := fun (i : Nat) (hi : i ≤ 8) W => laneBytes k d y s p i (sumN (fun r => (ls r).length) (nl k)) W hk hi (by omega)
  have hc := fun W (hW : Below w.heap.size w W) => (h.below hW).cell
  have hlen := fun r (hr : r < nl k) => h.len hr
  have hcl := fun i => cnt_le (l := i) (T := sumN (fun r => (ls r).length) (nl k)) (kb hk)
  obtain ⟨T, hT⟩ : ∃ T, sumN (fun r => (ls r).length) (nl k) = T := ⟨_, rfl⟩
  have hD : Hid (Dealt (nl k) (bb k) ls ↔ ∀ l, l < nl k → (ls l).length = cnt (bb k) l T) := by
    show _ ↔ _
    unfold Dealt; rw [hT]
  rw [hT] at ht hlb hs hcl
  generalize Dealt (nl k) (bb k) ls = DD at *
  generalize nl k = n at *
  generalize bb k = B at *
  have HL := TW.hide hl
  have HT := TW.hide ht
  have HLB := TW.hide hlb
  have HC := TW.hide hc
  have HLE := TW.hide hlen
  have HCL := TW.hide hcl
  clear hl ht hlb hc hlen h hk hT hcl
  have hnn : ((n : Int) != (n : Int)) = false := by simp
  unfold shC at *
  go_enter Try.func10, Try.ntmps10
  refine wp_seq_k fun K0 hK => ?_
  have HK := TW.hide hK
  clear hK
  go_wp2
  refine HK.out _ _ ?_
  clear HK K0
  have n0 := heap_alloc_new w (.cells #[.int .i64 k, .int .i64 d, .int .i64 y, s, p] 36)
  have hb := (Below.refl w.heap.size w).alloc (Nat.le_refl _) (.cells #[.int .i64 k, .int .i64 d, .int .i64 y, s, p] 36)
  generalize w.alloc _ = W at n0 hb ⊢
  obtain ⟨c0, c1, c2, c3, c4⟩ := cells5 n0
  have hE := blk_lt n0
  have N0 := TW.hide n0
  have B0 := TW.hide hb
  clear n0 hb
  go_wp2_with fail
  refine (HL.out _).mono ?_
  rintro e w1 ⟨rfl, hb1⟩
  have N1 := TW.hide (blk_keep N0.out hb1)
  have B1 : Hid (Below w.heap.size w w1) := below_row B0.out hb1 (by omega)
  clear hb1 N0 B0 c0 c1 c2 c3 c4
  obtain ⟨c0, c1, c2, c3, c4⟩ := cells5 N1.out
  go_wp2_with fail
  refine (HT.out _ B1.out).mono ?_
  rintro e w2 ⟨rfl, rfl⟩
  go_wp2_with fail
  refine (HL.out _).mono ?_
  rintro e w2 ⟨rfl, hb2⟩
  have N2 := TW.hide (blk_keep N1.out hb2)
  have B2 : Hid (Below w.heap.size w w2) := below_row B1.out hb2 B1.out.size
  clear hb2 N1 B1 c0 c1 c2 c3 c4
  go_wp2
  go_loopw [16] (fun i wr => ∃ x : Nat, x ≤ n ∧ i = .int .i64 x ∧ (∀ l, l < x → (ls l).length = cnt B l T) ∧ wr.heap[w.heap.size]? = some (.cells #[.int .i64 k, .int .i64 d, .int .i64 y, s, p] 36 (0, 0)) ∧ Below w.heap.size w wr) (fun i _ => n - (intOf i).toNat)
  case atStart => exact ⟨0, Nat.zero_le _, rfl, fun l hl => absurd hl (Nat.not_lt_zero l), N2.out, B2.out⟩
  case round =>
    obtain ⟨x, hx, rfl, hall, hnb, hbl⟩ := hrel
    clear N2 B2
    have HA := TW.hide hall
    have NB := TW.hide hnb
    have BL := TW.hide hbl
    clear hall hbl
    by_cases hlt : x < n
    · obtain ⟨c0, c1, c2, c3, c4⟩ := cells5 hnb
      have hcx := HC.out wr BL.out x hlt
      have hxI : (0 : Int) ≤ (x : Int) := Int.natCast_nonneg _
      have hxJ : (x : Int) < (n : Int) := by omega
      have hle := HLE.out x hlt
      have hcl := HCL.out x
      have HLX := TW.hide (fun W => HLB.out x (by omega) W)
      obtain ⟨m, hm⟩ : ∃ m, cnt B x T = m := ⟨_, rfl⟩
      obtain ⟨l0, hl0⟩ : ∃ l0, (ls x).length = l0 := ⟨_, rfl⟩
      rw [hm] at HLX hcl
      rw [hl0] at hcx hle
      have HM := TW.hide hm
      have HL0 := TW.hide hl0
      have hE2 := blk_lt hnb
      clear hm hl0 hnb
      go_wp2
      go_region_held3 (fun w' => w'.cell? ⟨b, off + x, none⟩ = some (.slice (A x) l0 (K x)) ∧ w'.cell? ⟨w.heap.size, 0, none⟩ = some (.int .i64 k) ∧ w'.cell? ⟨w.heap.size, 1, none⟩ = some (.int .i64 d) ∧ w'.cell? ⟨w.heap.size, 2, none⟩ = some (.int .i64 y) ∧ w'.cell? ⟨w.heap.size, 3, none⟩ = some s ∧ w'.cell? ⟨w.heap.size, 4, none⟩ = some p)
        (first | go_keep | (refine ⟨?_, ?_, ?_, ?_, ?_, ?_⟩ <;> rw [hb3.cell (lt_of_cell (w := wr) (by assumption))] <;> assumption))
        (first | (go_at_call 13; refine (HLX.out _).mono ?_; rintro e w3 ⟨rfl, hb3⟩))
      replace hb3 : Below wr.heap.size wr w3 := below_of_drew hb3
      have NB3 := TW.hide (blk_keep NB.out hb3)
      have BL3 : Hid (Below w.heap.size w w3) := below_row BL.out hb3 BL.out.size
      clear hb3 NB BL
      by_cases e : l0 = m
      · have hbb : ((l0 : Int) != (m : Int)) = false := by simp [e]
        have HE : Hid (l0 = m) := e
        clear e
        go_wp2
        go_roundw
        case rel =>
          refine ⟨x + 1, by omega, by go_num, fun l hl => ?_, NB3.out, BL3.out⟩
          by_cases el : l = x
          · subst el; rw [HL0.out, HM.out, HE.out]
          · exact HA.out l (by omega)
        case measure => simp [intOf]; omega
      · have hbb : ((l0 : Int) != (m : Int)) = true := by simp; omega
        have HE : Hid (¬ l0 = m) := e
        clear e
        go_wp2
        go_ret
        refine ⟨false, rfl, ⟨(fun h => by cases h), fun h => ?_⟩, BL3.out⟩
        have h1 := (hD.out.1 h) x hlt
        rw [HL0.out, HM.out] at h1
        exact absurd h1 HE.out
    · obtain rfl : x = n := by omega
      clear hnb
      go_wp2
      go_ret
      exact ⟨true, rfl, ⟨fun _ => hD.out.2 HA.out, fun _ => rfl⟩, BL.out⟩
end LW
end Go.Proofs.Ythbakhgfnfdahab
