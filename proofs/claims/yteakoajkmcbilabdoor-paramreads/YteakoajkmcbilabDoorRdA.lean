/-
  Reading a word of a line that Show writes: plain facts, UnHex, Split, Cut, ParseUint, readValue, readField.
-/
import Derived.Test.YteakoajkmcbilabDoorWords
import Derived.Test.YteakoajkmcbilabDoorHex
import Derived.Test.YteakoajkmcbilabDoorShowL
import Derived.Lib.SplitLaws
import Derived.Lib.ParseIntB
import Derived.Test.YteakoajkmcbilabDoorLayRD
namespace Go.Proofs.YteakoajkmcbilabDoor.Txt
open Go Words

/-- A text's bytes as numbers. -/
def sb (s : ByteArray) : List Int := s.data.toList.map fun b => (b.toNat : Int)
theorem sb_length (s : ByteArray) : (sb s).length = s.size := by simp [sb]
theorem sb_byt (s : ByteArray) : Byt (sb s) := by
  intro z hz
  simp only [sb, List.mem_map] at hz
  obtain ⟨b, _, rfl⟩ := hz
  have := b.toNat_lt
  omega
theorem sb_get (s : ByteArray) (k : Nat) (h : k < s.size) : (sb s).getD k 0 = (s[k].toNat : Int) := by
  have h' : k < s.data.toList.length := by simpa using h
  rw [List.getD_eq_getElem?_getD, sb, List.getElem?_map, List.getElem?_eq_getElem h']
  rfl
theorem sb_inj {s t : ByteArray} (h : sb s = sb t) : s = t := by
  have h2 : s.data.toList = t.data.toList := by
    have inj : ∀ a b : UInt8, (a.toNat : Int) = (b.toNat : Int) → a = b := fun a b h => UInt8.toNat_inj.1 (by omega)
    have : ∀ l m : List UInt8, l.map (fun b => (b.toNat : Int)) = m.map (fun b => (b.toNat : Int)) → l = m := by
      intro l
      induction l with
      | nil => intro m hm; cases m with
        | nil => rfl
        | cons => simp at hm
      | cons x l ih => intro m hm; cases m with
        | nil => simp at hm
        | cons y m =>
          simp only [List.map_cons, List.cons.injEq] at hm
          rw [inj x y hm.1, ih m hm.2]
    exact this _ _ h
  cases s; cases t
  simp only [ByteArray.mk.injEq]
  exact Array.toList_inj.1 h2

/-- What a digit is worth; -1: it is none. -/
def hw (c : Int) : Int :=
  if 48 ≤ c ∧ c ≤ 57 then c - 48 else if 97 ≤ c ∧ c ≤ 102 then c - 87 else if 65 ≤ c ∧ c ≤ 70 then c - 55 else -1
theorem hw_bd (c : Int) : -1 ≤ hw c ∧ hw c ≤ 15 := by unfold hw; repeat' split <;> omega

/-- The first place whose byte is worth nothing; the length, if there is none. -/
def bad (g : Int → Int) : List Int → Nat
  | [] => 0
  | x :: l => if g x = -1 then 0 else bad g l + 1
theorem bad_le (g : Int → Int) (l : List Int) : bad g l ≤ l.length := by
  induction l with
  | nil => simp [bad]
  | cons x l ih => simp only [bad, List.length_cons]; split <;> omega
theorem bad_spec (g : Int → Int) (l : List Int) (k : Nat) (h : k ≤ l.length) (hk : ∀ j, j < k → g (l.getD j 0) ≠ -1) (hb : k < l.length → g (l.getD k 0) = -1) : bad g l = k := by
  induction l generalizing k with
  | nil => simp at h; simp [bad, h]
  | cons x l ih =>
    cases k with
    | zero =>
      have h1 : g x = -1 := by simpa using hb (by simp)
      simp [bad, h1]
    | succ k =>
      have h0 : g x ≠ -1 := by simpa using hk 0 (by omega)
      have h2 := ih k (by simpa using h) (fun j hj => by simpa using hk (j + 1) (by omega)) (fun hl => by simpa using hb (by simpa using hl))
      simp [bad, h0, h2]
theorem bad_before (g : Int → Int) (l : List Int) (j : Nat) (h : j < bad g l) : g (l.getD j 0) ≠ -1 := by
  induction l generalizing j with
  | nil => simp [bad] at h
  | cons x l ih =>
    simp only [bad] at h
    split at h
    · omega
    · rename_i hx
      cases j with
      | zero => simpa using hx
      | succ j => simpa using ih j (by omega)
theorem bad_at (g : Int → Int) (l : List Int) (h : bad g l < l.length) : g (l.getD (bad g l) 0) = -1 := by
  induction l with
  | nil => simp at h
  | cons x l ih =>
    by_cases hx : g x = -1
    · simp [bad, hx]
    · simp only [bad, hx, if_false, List.length_cons] at h ⊢
      simpa using ih (by omega)

/-- Two digits, one byte. -/
def uh : List Int → List Int
  | a :: b :: l => (16 * hw a + hw b) :: uh l
  | _ => []
/-- Is the text taken? -/
def hexOk (l : List Int) : Bool := decide (bad hw l = l.length ∧ l.length % 2 = 0)
/-- The bytes that are answered. -/
def hexB (l : List Int) : List Int := if hexOk l then uh l else []
/-- The place that is answered. -/
def hexAt (l : List Int) : Int := if hexOk l then 0 else bad hw l
/-- The error that is answered. -/
def hexE (l : List Int) : Int := if hexOk l then 0 else 4
theorem uh_length (l : List Int) : (uh l).length = l.length / 2 := by
  match l with
  | [] => rfl
  | [a] => simp [uh]
  | a :: b :: l => simp [uh, uh_length l]; omega
/-- A round: the next pair. -/
theorem uh_take (l : List Int) (k : Nat) (h : 2 * k + 1 < l.length) : uh (l.take (2 * (k + 1))) = uh (l.take (2 * k)) ++ [16 * hw (l.getD (2 * k) 0) + hw (l.getD (2 * k + 1) 0)] := by
  induction k generalizing l with
  | zero =>
    match l, h with
    | a :: b :: l, _ => simp [uh]
  | succ k ih =>
    match l, h with
    | a :: b :: l, h =>
      have := ih l (by simp at h; omega)
      have e1 : 2 * (k + 1 + 1) = 2 * (k + 1) + 1 + 1 := by omega
      have e2 : 2 * (k + 1) = 2 * k + 1 + 1 := by omega
      rw [e1, List.take_succ_cons, List.take_succ_cons, e2, List.take_succ_cons, List.take_succ_cons]
      simp only [uh, List.cons_append, List.getD_cons_succ]
      rw [← e2, this]
theorem uh_get (l : List Int) (k : Nat) (h : k < l.length / 2) : (uh l).getD k 0 = 16 * hw (l.getD (2 * k) 0) + hw (l.getD (2 * k + 1) 0) := by
  induction k generalizing l with
  | zero => match l, h with
    | [], h => simp at h
    | [_], h => simp at h
    | a :: b :: l, _ => simp [uh]
  | succ k ih => match l, h with
    | [], h => simp at h
    | [_], h => simp at h
    | a :: b :: l, h =>
      have := ih l (by simp at h; omega)
      simp only [uh, List.getD_cons_succ, show 2 * (k + 1) = 2 * k + 1 + 1 by omega]
      exact this
end Go.Proofs.YteakoajkmcbilabDoor.Txt
namespace Go.Proofs.YteakoajkmcbilabDoor
open Go.RowKit
set_option linter.unusedVariables false
namespace LW
open Words Txt
theorem hexWorth (c : Int) (w : World) (h0 : 0 ≤ c) (h1 : c < 256) :
    Calls Tryd.prog 101 #[.int .u8 c] w fun e w' => e = .returned (.int .i64 (hw c)) ∧ w = w' := by
  unfold hw
  by_cases c1 : 48 ≤ c ∧ c ≤ 57
  · obtain ⟨c1, c2⟩ := c1
    rw [if_pos ⟨c1, c2⟩]
    go_enter Tryd.func101, Tryd.ntmps101
    go_wp2
    go_ret
    exact ⟨TW.ret_int (by omega), rfl⟩
  · rw [if_neg c1]
    by_cases d1 : 97 ≤ c ∧ c ≤ 102
    · obtain ⟨d1, d2⟩ := d1
      rw [if_pos ⟨d1, d2⟩]
      have e1 : ¬ c ≤ 57 := by omega
      clear c1
      go_enter Tryd.func101, Tryd.ntmps101
      go_wp2
      go_ret
      exact ⟨TW.ret_int (by omega), rfl⟩
    · rw [if_neg d1]
      by_cases f1 : 65 ≤ c ∧ c ≤ 70
      · obtain ⟨f1, f2⟩ := f1
        rw [if_pos ⟨f1, f2⟩]
        have e1 : ¬ c ≤ 57 := by omega
        have e2 : ¬ 97 ≤ c := by omega
        clear c1 d1
        go_enter Tryd.func101, Tryd.ntmps101
        go_wp2
        go_ret
        exact ⟨TW.ret_int (by omega), rfl⟩
      · rw [if_neg f1]
        go_enter Tryd.func101, Tryd.ntmps101
        go_wp2
        all_goals first | omega | (go_ret; exact ⟨rfl, rfl⟩)
/-- A text's byte at a place. -/
theorem index_s (s : ByteArray) (k : Nat) (h : k < s.size) (hs : s.size ≤ 8388608) (w : World) :
    (Instr.index 9 (.string s) (.int .i64 (k : Int))).run Tryd.prog w = .ok (.int .u8 ((sb s).getD k 0)) w := by
  rw [sb_get s k h]
  have h1 : (0 : Int) ≤ (k : Int) := by omega
  have h2 : (k : Int) < (s.size : Int) := by omega
  simp [go_sem, h]
theorem stranger27 (g : Int → Int) (s : ByteArray) (w : World) (hs : s.size ≤ 8388608)
    (hf : ∀ c W, 0 ≤ c → c < 256 → Calls Tryd.prog 101 #[.int .u8 c] W fun e w' => e = .returned (.int .i64 (g c)) ∧ W = w') :
    Calls Tryd.prog 100 #[.string s, .func (.func 101) #[] #[]] w fun e w' => e = .returned (.int .i64 (bad g (sb s))) ∧ w = w' := by
  have hbt := sb_byt s
  have hix := fun k h => index_s s k h hs
  have hlen := sb_length s
  have hspec := bad_spec g (sb s)
  generalize sb s = l at *
  generalize hsz : s.size = n at *
  have HF := TW.hide hf
  have HB := TW.hide hbt
  have HI := TW.hide hix
  have HL := TW.hide hlen
  have HS := TW.hide hspec
  have HZ := TW.hide hsz
  clear hf hbt hix hlen hspec
  go_enter Tryd.func100, Tryd.ntmps100
  go_wp2
  go_loop [8] (fun i => ∃ k : Nat, k ≤ n ∧ i = .int .i64 k ∧ ∀ j, j < k → g (l.getD j 0) ≠ -1) (fun i => n - (intOf i).toNat)
  case atStart => exact ⟨0, Nat.zero_le _, rfl, fun j h => absurd h (Nat.not_lt_zero _)⟩
  case round =>
    obtain ⟨k, hk, rfl, hall⟩ := hrel
    have HA := TW.hide hall
    clear hall
    by_cases hlt : k < n
    · have hi := HI.out k hlt
      have hb := HB.out.get k
      have hsp := HS.out k (by rw [HL.out]; omega) HA.out
      have hfc := fun W => HF.out (l.getD k 0) W hb.1 hb.2
      have hstep : ∀ j, j < k + 1 → g (l.getD k 0) ≠ -1 → g (l.getD j 0) ≠ -1 := by
        intro j hj hg
        rcases Nat.lt_or_eq_of_le (Nat.lt_succ_iff.1 hj) with h' | rfl
        · exact HA.out j h'
        · exact hg
      generalize l.getD k 0 = c at *
      generalize hgc : g c = v at *
      have HFC := TW.hide hfc
      have HSP := TW.hide hsp
      have HST := TW.hide hstep
      clear hfc hsp hstep hgc
      by_cases hv : v = -1
      · have hvb : (v == -1) = true := by simp [hv]
        have HV := TW.hide hv
        clear hv
        go_wp2_with fail
        refine (HFC.out _).mono ?_
        rintro e w' ⟨rfl, rfl⟩
        go_wp2_with fail
        go_ret
        exact ⟨TW.ret_int (by rw [HSP.out fun _ => HV.out]), rfl⟩
      · have hvb : (v == -1) = false := by simp [hv]
        have HV := TW.hide hv
        clear hv
        go_wp2_with fail
        refine (HFC.out _).mono ?_
        rintro e w' ⟨rfl, rfl⟩
        go_wp2_with fail
        go_round
        case rel => exact ⟨k + 1, by omega, by go_num, fun j hj => HST.out j hj HV.out⟩
        case measure => simp [intOf]; omega
    · go_wp2_with fail
      go_ret
      refine ⟨TW.ret_int ?_, rfl⟩
      rw [HS.out k (by rw [HL.out]; omega) HA.out (fun h => absurd h (by rw [HL.out]; omega))]
      omega
end LW
end Go.Proofs.YteakoajkmcbilabDoor
namespace Go.Proofs.YteakoajkmcbilabDoor
open Go.RowKit
set_option linter.unusedVariables false
namespace LW
open Words Txt
theorem ret_three {v v' : Value} {a b c d : Int} {k l : IntKind} (h : v = v') (h1 : a = b) (h2 : c = d) : Ending.returned (.tuple #[v, .int k a, .int l c]) = .returned (.tuple #[v', .int k b, .int l d]) := by rw [h, h1, h2]
theorem hexOk_no {l : List Int} (h : ¬ (bad hw l = l.length ∧ l.length % 2 = 0)) : hexOk l = false := by simp [hexOk]; omega
theorem hexOk_yes {l : List Int} (h1 : bad hw l = l.length) (h2 : l.length % 2 = 0) : hexOk l = true := by simp [hexOk, h1, h2]
theorem uh_set (l : List Int) (m k : Nat) (hl : 2 * m ≤ l.length) (h : k < m) : (vs (uh (l.take (2 * k)) ++ List.replicate (m - k) 0)).set k (.int .u8 (16 * hw (l.getD (2 * k) 0) + hw (l.getD (2 * k + 1) 0))) = vs (uh (l.take (2 * (k + 1))) ++ List.replicate (m - (k + 1)) 0) := by
  have e : m - k = m - (k + 1) + 1 := by omega
  have hlen : (uh (l.take (2 * k))).length = k := by rw [uh_length, List.length_take]; omega
  rw [vs_append, List.set_append_right _ _ (by rw [vs_length, hlen]; omega), vs_length, hlen, Nat.sub_self, e, List.replicate_succ]
  rw [uh_take l k (by omega)]
  simp [vs]
/-- A pair of digits, as the program makes a byte of it. -/
theorem pair_or (x y : Int) (hx0 : 0 ≤ x) (hx : x ≤ 15) (hy0 : 0 ≤ y) (hy : y ≤ 15) : bits .or .i64 (x * 16) y = 16 * x + y := by
  obtain ⟨X, rfl⟩ := Int.eq_ofNat_of_zero_le hx0
  obtain ⟨Y, rfl⟩ := Int.eq_ofNat_of_zero_le hy0
  have e : ((X : Int) * 16) = ((X * 2 ^ 4 : Nat) : Int) := by simp
  rw [e]
  show IntKind.i64.wrap ((BitVec.ofInt 64 ((X * 2 ^ 4 : Nat) : Int) ||| BitVec.ofInt 64 (Y : Int)).toNat : Int) = _
  rw [BitVec.toNat_or, ofInt_u64 _ (by omega), ofInt_u64 _ (by omega), nat_join 4 _ _ (by omega) (by omega), IntKind.wrap_i64]
  omega
attribute [local go_sem ↓] Go.wp_at_zero Go.wp_at_succ
set_option maxRecDepth 100000 in
set_option maxHeartbeats 3200000 in
theorem unhex (s : ByteArray) (w : World) (hs : s.size ≤ 8388608) :
    Calls Tryd.prog 91 #[.string s] w fun e w' => ∃ v, e = .returned (.tuple #[v, .int .i64 (hexAt (sb s)), .int .i64 (hexE (sb s))]) ∧
      w'.ownsRow w.heap.size 5 1 v (hexB (sb s)).length (vs (hexB (sb s))) ∧ Below w.heap.size w w' := by
  obtain ⟨i0, hi, hz0, hz1, hz2⟩ := info_parts info5
  have hst := fun W => stranger27 hw s W hs hexWorth
  have hbt := sb_byt s
  have hix := fun k h => index_s s k h hs
  have hlen := sb_length s
  have hle := bad_le hw (sb s)
  have hbef := bad_before hw (sb s)
  generalize sb s = l at *
  generalize hsz : s.size = n at *
  have HST := TW.hide hst
  have HB := TW.hide hbt
  have HI := TW.hide hix
  have HL := TW.hide hlen
  have HBE := TW.hide hbef
  clear hst hbt hix hbef
  rw [hlen] at hle
  by_cases h1 : bad hw l < n
  · have hno := hexOk_no (l := l) (by omega)
    have e1 : hexB l = [] := by simp [hexB, hno]
    have e2 : hexAt l = bad hw l := by simp [hexAt, hno]
    have e3 : hexE l = 4 := by simp [hexE, hno]
    rw [e1, e2, e3]
    generalize bad hw l = b at *
    have h1I : (b : Int) < (n : Int) := by omega
    clear hlen hno e1 e2 e3
    go_enter Tryd.func91, Tryd.ntmps91
    go_wp2_with fail
    refine (HST.out _).mono ?_
    rintro e w' ⟨rfl, rfl⟩
    go_wp2_with fail
    go_ret3
    exact ⟨_, rfl, World.ownsRow_nil _ _ _ _, Below.refl _ _⟩
  · obtain hbn : bad hw l = n := by omega
    rw [hbn] at HST HBE
    by_cases h2 : n % 2 = 0
    · have hyes := hexOk_yes (l := l) (by omega) (by omega)
      have e1 : hexB l = uh l := by simp [hexB, hyes]
      have e2 : hexAt l = 0 := by simp [hexAt, hyes]
      have e3 : hexE l = 0 := by simp [hexE, hyes]
      have hu := uh_length l
      rw [hlen] at hu
      rw [e1, e2, e3, hu]
      have hn2 : ((n : Int) % 2) = 0 := by omega
      have htest : ((n : Int) % 2 != 0) = false := by simp [hn2]
      have HU := TW.hide hu
      clear hlen hyes e1 e2 e3 hu hle hbn h1
      obtain ⟨m, hm⟩ : ∃ m, n / 2 = m := ⟨_, rfl⟩
      rw [hm] at HU ⊢
      have hmI : (n : Int) / 2 = (m : Int) := by omega
      have hnn : n = 2 * m := by omega
      clear hm
      go_enter Tryd.func91, Tryd.ntmps91
      go_wp2_with fail
      refine (HST.out _).mono ?_
      rintro e w' ⟨rfl, rfl⟩
      go_wp2_with (at_make; refine wpList_make_full _ rfl _ _ 24 rfl w.heap.size 5 i0 (.int .u8 0) 1 Tryd.underlying24 hi hz0 hz1 _ _ _ _ m rfl rfl (by omega) (by omega) (by rw [hz2]; omega) (by unfold maxLen; omega) (by omega) ?_; intro w1 hown hgrow)
      have hown1 : w1.ownsRow w.heap.size 5 1 (.slice (some ⟨w.heap.size, 0, none⟩) m m) m (vs (List.replicate m 0)) := by
        rw [← made_vs]; exact hown
      have hbel : Below w.heap.size w w1 := (Below.refl _ _).grown hgrow (Nat.le_refl _) (by intro k h; cases h)
      have H1 := TW.hide hown1
      have H2 := TW.hide hbel
      clear hown hgrow hown1 hbel
      go_loopw [27] (fun i wr => ∃ k : Nat, k ≤ m ∧ i = .int .i64 k ∧ wr.ownsRow w.heap.size 5 1 (.slice (some ⟨w.heap.size, 0, none⟩) m m) m (vs (uh (l.take (2 * k)) ++ List.replicate (m - k) 0)) ∧ Below w.heap.size w wr) (fun i _ => m - (intOf i).toNat)
      case atStart => exact ⟨0, Nat.zero_le _, rfl, by simpa [uh] using H1.out, H2.out⟩
      case round =>
        obtain ⟨k, hk, rfl, hown, hbel⟩ := hrel
        have HO := TW.hide hown
        have HB2 := TW.hide hbel
        clear hown hbel H1 H2
        by_cases hlt : k < m
        · have hc : ∃ z, wr.cell? ⟨w.heap.size, k, none⟩ = some z := by
            rw [HO.out.cellAt k (by omega)]
            exact ⟨_, List.getElem?_eq_getElem (by rw [vs_length]; simp [uh_length]; rw [HL.out]; omega)⟩
          obtain ⟨z, hc⟩ := hc
          have hf := HO.out.frozenAt k
          have hset := uh_set l m k (by rw [HL.out]; omega) hlt
          have i1 : ∀ W, (Instr.index 9 (.string s) (.int .i64 (2 * (k : Int)))).run Tryd.prog W = .ok (.int .u8 (l.getD (2 * k) 0)) W := by
            rw [show (2 * (k : Int)) = ((2 * k : Nat) : Int) by omega]; exact HI.out _ (by omega)
          have i2 : ∀ W, (Instr.index 9 (.string s) (.int .i64 (2 * (k : Int) + 1))).run Tryd.prog W = .ok (.int .u8 (l.getD (2 * k + 1) 0)) W := by
            rw [show (2 * (k : Int) + 1) = ((2 * k + 1 : Nat) : Int) by omega]; exact HI.out _ (by omega)
          have b1 := HB.out.get (2 * k)
          have b2 := HB.out.get (2 * k + 1)
          have g1 := HBE.out (2 * k) (by omega)
          have g2 := HBE.out (2 * k + 1) (by omega)
          generalize l.getD (2 * k) 0 = a1 at *
          generalize l.getD (2 * k + 1) 0 = a2 at *
          have c1 := fun W => hexWorth a1 W b1.1 b1.2
          have c2 := fun W => hexWorth a2 W b2.1 b2.2
          have d1 := hw_bd a1
          have d2 := hw_bd a2
          generalize hw a1 = x at *
          generalize hw a2 = y at *
          have x0 : 0 ≤ x := by omega
          have x1 : x ≤ 15 := by omega
          have y0 : 0 ≤ y := by omega
          have y1 : y ≤ 15 := by omega
          have hor := pair_or x y x0 x1 y0 y1
          have C1 := TW.hide c1
          have C2 := TW.hide c2
          have HSET := TW.hide hset
          clear c1 c2 g1 g2 d1 d2 b1 b2 hset
          have hk0 : (0 : Int) ≤ (k : Int) := by omega
          have hk1 : (k : Int) < (m : Int) := by omega
          have hk2 : (0 : Int) ≤ 2 * (k : Int) := by omega
          have hk3 : 2 * (k : Int) < 2 * (m : Int) := by omega
          have hk4 : (0 : Int) ≤ 2 * (k : Int) + 1 := by omega
          have hk5 : 2 * (k : Int) + 1 < 2 * (m : Int) := by omega
          have wr1 : IntKind.i64.wrap (2 * (k : Int)) = 2 * (k : Int) := by rw [IntKind.wrap_i64]; omega
          have wr2 : IntKind.i64.wrap (2 * (k : Int) + 1) = 2 * (k : Int) + 1 := by rw [IntKind.wrap_i64]; omega
          have wr4 : IntKind.u8.wrap (16 * x + y) = 16 * x + y := by rw [IntKind.wrap_u8']; omega
          have wr3 : IntKind.i64.wrap (x * 16) = x * 16 := by rw [IntKind.wrap_i64]; omega
          go_wp2_with fail
          go_region_held3 (fun _ => True)
            (trivial)
            (first | (go_at_call_of 101 a1; refine (C1.out _).mono ?_; rintro e w' ⟨rfl, rfl⟩) | (go_at_call_of 101 a2; refine (C2.out _).mono ?_; rintro e w' ⟨rfl, rfl⟩))
          all_goals
            go_wp2
            go_roundw
            case rel => exact ⟨k + 1, by omega, by go_num, by rw [← HSET.out]; exact (HO.out.stored k _).1.drew, (HB2.out.setCell (Nat.le_refl _) _).drew⟩
            case measure => simp [intOf]; omega
        · obtain rfl : k = m := by omega
          go_wp2
          go_ret3
          have hown := HO.out
          rw [Nat.sub_self, List.replicate_zero, List.append_nil, List.take_of_length_le (by rw [HL.out]; omega)] at hown
          exact ⟨_, rfl, hown, HB2.out⟩
    · have hno := hexOk_no (l := l) (by omega)
      have e1 : hexB l = [] := by simp [hexB, hno]
      have e2 : hexAt l = n := by simp [hexAt, hno, hbn]
      have e3 : hexE l = 4 := by simp [hexE, hno]
      rw [e1, e2, e3]
      have hn2 : ((n : Int) % 2) = 1 := by omega
      have htest : ((n : Int) % 2 != 0) = true := by simp [hn2]
      clear hlen hno e1 e2 e3 hle hbn h1
      go_enter Tryd.func91, Tryd.ntmps91
      go_wp2_with fail
      refine (HST.out _).mono ?_
      rintro e w' ⟨rfl, rfl⟩
      go_wp2_with fail
      go_ret3
      exact ⟨_, rfl, World.ownsRow_nil _ _ _ _, Below.refl _ _⟩
end LW
end Go.Proofs.YteakoajkmcbilabDoor
namespace Go.Proofs.YteakoajkmcbilabDoor
open Go.RowKit
set_option linter.unusedVariables false
set_option linter.unusedSimpArgs false
namespace LW
open Words Txt
theorem sb_str (l : List Int) (h : Byt l) : sb (strOfNums l) = l := by
  unfold sb
  rw [strOfNums_data, List.map_map]
  have : ∀ z ∈ l, ((fun b : UInt8 => (b.toNat : Int)) ∘ fun n : Int => UInt8.ofNat n.toNat) z = z := by
    intro z hz
    have := h z hz
    simp only [Function.comp, UInt8.toNat_ofNat']
    omega
  rw [List.map_congr_left this, List.map_id']
theorem hw_dg (n : Int) (h0 : 0 ≤ n) (h1 : n < 16) : hw (dg n) = n := by unfold hw dg; repeat' split <;> omega
theorem bad_all (g : Int → Int) (l : List Int) (h : ∀ x ∈ l, g x ≠ -1) : bad g l = l.length := by
  induction l with
  | nil => rfl
  | cons x l ih => simp [bad, h x (by simp), ih fun y hy => h y (by simp [hy])]
theorem hx_good {zs : List Int} (h : Byt zs) : ∀ x ∈ hx zs, hw x ≠ -1 := by
  induction zs with
  | nil => intro x hx; cases hx
  | cons z l ih =>
    obtain ⟨hb, hl⟩ := h.cons
    intro x hxx
    have h1 : hw (dg (z / 16)) = z / 16 := hw_dg _ (by omega) (by omega)
    have h2 : hw (dg (z % 16)) = z % 16 := hw_dg _ (by omega) (by omega)
    rcases List.mem_cons.1 hxx with rfl | hxx
    · omega
    · rcases List.mem_cons.1 hxx with rfl | hxx
      · omega
      · exact ih hl x hxx
theorem uh_hx {zs : List Int} (h : Byt zs) : uh (hx zs) = zs := by
  induction zs with
  | nil => rfl
  | cons z l ih =>
    obtain ⟨hb, hl⟩ := h.cons
    have h1 : hw (dg (z / 16)) = z / 16 := hw_dg _ (by omega) (by omega)
    have h2 : hw (dg (z % 16)) = z % 16 := hw_dg _ (by omega) (by omega)
    simp only [hx, uh, h1, h2, ih hl, List.cons.injEq, and_true]
    omega
theorem hexOk_hx {zs : List Int} (h : Byt zs) : hexOk (hx zs) = true :=
  hexOk_yes (bad_all hw _ (hx_good h)) (by rw [hx_length]; omega)
theorem hexB_hx {zs : List Int} (h : Byt zs) : hexB (hx zs) = zs := by simp [hexB, hexOk_hx h, uh_hx h]
theorem hexE_hx {zs : List Int} (h : Byt zs) : hexE (hx zs) = 0 := by simp [hexE, hexOk_hx h]
theorem hexAt_hx {zs : List Int} (h : Byt zs) : hexAt (hx zs) = 0 := by simp [hexAt, hexOk_hx h]
/-- Digits, read back. -/
theorem parse_dec (M : Nat) (hM : M < 18446744073709551616) (u : Nat) (r : List UInt8) (h : u ≤ M) : Lib.parseUintM M 0 (Lib.decDigits u ++ r) = Lib.parseUintM M u r := by
  induction u using Nat.strongRecOn generalizing r with
  | _ u ih =>
    by_cases h10 : u < 10
    · rw [Lib.decDigits, dif_pos h10, List.singleton_append, Lib.parseUintM]
      have e : (UInt8.ofNat (48 + u)).toNat = 48 + u := by rw [UInt8.toNat_ofNat']; omega
      rw [e, if_pos (by omega), if_neg (by omega), if_neg (by omega)]
      congr 1
      omega
    · rw [Lib.decDigits, dif_neg h10, List.append_assoc, ih (u / 10) (by omega) _ (by omega), List.singleton_append, Lib.parseUintM]
      have e : (UInt8.ofNat (48 + u % 10)).toNat = 48 + u % 10 := by rw [UInt8.toNat_ofNat']; omega
      rw [e, if_pos (by omega), if_neg (by omega), if_neg (by omega)]
      congr 1
      omega
theorem parse_dcs (u : Nat) (h : u < 18446744073709551616) : Lib.parseUintB 64 (strOfNums (dcs u)).data.toList = .ok u := by
  rw [strOfNums_data, dec_dcs, Lib.parseUintB, if_neg]
  · have := parse_dec (2 ^ 64 - 1) (by decide) u [] (by omega)
    rw [List.append_nil] at this
    rw [this]; rfl
  · intro e
    have := Lib.decDigits_length u
    have h2 := Lib.lt_pow_nDigits u
    rw [e, List.length_nil] at this
    rw [← this] at h2
    have : u = 0 := by omega
    subst this
    exact absurd e (by rw [Lib.decDigits, dif_pos (by omega)]; simp)
/-- A number as a byte. -/
abbrev u8 (n : Int) : UInt8 := UInt8.ofNat n.toNat
theorem u8_ne {a b : Int} (ha : 0 ≤ a ∧ a < 256) (hb : 0 ≤ b ∧ b < 256) (h : a ≠ b) : u8 a ≠ u8 b := by
  intro e
  have := congrArg UInt8.toNat e
  rw [UInt8.toNat_ofNat', UInt8.toNat_ofNat'] at this
  omega
theorem index_here (c : UInt8) (l r : List UInt8) (h : ∀ z ∈ l, z ≠ c) : Lib.index (l ++ c :: r) [c] = l.length := by
  induction l with
  | nil => simp [Lib.index, List.isPrefixOf]
  | cons b l ih =>
    have hb := h b (by simp)
    have ih := ih (fun z hz => h z (by simp [hz]))
    have hp : ([c] : List UInt8).isPrefixOf (b :: (l ++ c :: r)) = false := by simp [List.isPrefixOf, Ne.symm hb]
    rw [List.cons_append, Lib.index, hp, ih, if_neg (by decide), if_neg (by simp)]
    simp
/-- A line of words, each but the first with the byte 'c' ahead. -/
def joinC (c : UInt8) : List (List UInt8) → List UInt8
  | [] => []
  | w :: ws => c :: (w ++ joinC c ws)
theorem split_join (c : UInt8) (w : List UInt8) (ws : List (List UInt8)) (hw : ∀ z ∈ w, z ≠ c) (hs : ∀ v ∈ ws, ∀ z ∈ v, z ≠ c) :
    Lib.splitK [c] 0 ws.length (w ++ joinC c ws) = w :: ws := by
  induction ws generalizing w with
  | nil => simp [joinC, Lib.splitK]
  | cons v ws ih =>
    have hi := index_here c w (v ++ joinC c ws) hw
    rw [joinC, List.length_cons, Lib.splitK, hi, if_neg (by simp)]
    have e1 : ((w.length : Int).toNat + 0) = w.length := by omega
    have e2 : ((w.length : Int).toNat + [c].length) = w.length + 1 := by simp
    rw [e1, e2, List.take_left', List.drop_append]
    · rw [show w.length + 1 - w.length = 1 by omega, List.drop_of_length_le (by omega), List.nil_append, List.drop_succ_cons, List.drop_zero, ih v (hs v (by simp)) (fun x hx => hs x (by simp [hx]))]
    · rfl
theorem count_join (c : UInt8) (w : List UInt8) (ws : List (List UInt8)) (hw : ∀ z ∈ w, z ≠ c) (hs : ∀ v ∈ ws, ∀ z ∈ v, z ≠ c) :
    Lib.count (w ++ joinC c ws) [c] = ws.length := by
  rw [Lib.count_one]
  have h0 : ∀ l : List UInt8, (∀ z ∈ l, z ≠ c) → l.count c = 0 := fun l h => List.count_eq_zero.2 fun hc => h c hc rfl
  induction ws generalizing w with
  | nil => simp [joinC, h0 w hw]
  | cons v ws ih =>
    rw [joinC, List.count_append, h0 w hw, List.count_cons_self, ih v (hs v (by simp)) (fun x hx => hs x (by simp [hx])), List.length_cons]
    omega
theorem cut_here (c : UInt8) (l r : List UInt8) (h : ∀ z ∈ l, z ≠ c) : Lib.cut (l ++ c :: r) [c] = (l, r, true) := by
  have hi := index_here c l r h
  unfold Lib.cut
  rw [hi, if_pos (by omega)]
  simp
end LW
end Go.Proofs.YteakoajkmcbilabDoor
namespace Go.Proofs.YteakoajkmcbilabDoor
open Go.RowKit Go.Shelf
set_option linter.unusedVariables false
set_option linter.unusedSimpArgs false
namespace LW
open Words Txt
/-- A field's word. -/
def wordL (p : Pm) (s t : List Int) (f : Int) : List Int := nmL f ++ [61] ++ shV p s t f
/-- The words of the last 'n' fields, those that are as usual left out. -/
def wsN (kd : Int) (p : Pm) (s t : List Int) : Nat → List (List Int)
  | 0 => []
  | n + 1 => (if usB kd p s t (11 - (n : Int)) = true then [] else [wordL p s t (11 - (n : Int))]) ++ wsN kd p s t n
def joinI : List (List Int) → List Int
  | [] => []
  | w :: ws => 32 :: (w ++ joinI ws)
theorem joinI_append (a b : List (List Int)) : joinI (a ++ b) = joinI a ++ joinI b := by
  induction a with
  | nil => rfl
  | cons w a ih => simp [joinI, ih]
theorem ln_ws (kd : Int) (p : Pm) (s t : List Int) (n : Nat) (hn : n ≤ 11) : lnL kd p s t 11 = lnL kd p s t (11 - n) ++ joinI (wsN kd p s t n) := by
  induction n with
  | zero => simp [wsN, joinI]
  | succ n ih =>
    rw [ih (by omega), wsN, joinI_append, show 11 - n = (11 - (n + 1)) + 1 by omega, lnL, List.append_assoc]
    have e : (((11 - (n + 1) : Nat) : Int) + 1) = 11 - (n : Int) := by omega
    rw [e]
    congr 2
    split
    · rfl
    · simp [joinI, wdL, wordL]
theorem ln_all (kd : Int) (p : Pm) (s t : List Int) : lnL kd p s t 11 = knL kd ++ joinI (wsN kd p s t 11) := ln_ws kd p s t 11 (Nat.le_refl _)
theorem dcs_dig (n : Nat) : ∀ z ∈ dcs n, 48 ≤ z ∧ z ≤ 57 := by
  induction n using Nat.strongRecOn with
  | _ n ih =>
    intro z hz
    by_cases h : n < 10
    · rw [dcs_small n h] at hz; simp at hz; omega
    · rw [dcs_great n h, List.mem_append] at hz
      rcases hz with hz | hz
      · exact ih (n / 10) (by omega) z hz
      · simp at hz; omega
theorem hx_dig {s : List Int} (h : Byt s) : ∀ z ∈ hx s, 48 ≤ z ∧ z ≤ 102 := by
  induction s with
  | nil => intro z hz; cases hz
  | cons y l ih =>
    obtain ⟨hy, hl⟩ := h.cons
    intro z hz
    have d : ∀ n : Int, 0 ≤ n → n < 16 → 48 ≤ dg n ∧ dg n ≤ 102 := fun n a b => by unfold dg; split <;> omega
    rcases List.mem_cons.1 hz with rfl | hz
    · exact d _ (by omega) (by omega)
    · rcases List.mem_cons.1 hz with rfl | hz
      · exact d _ (by omega) (by omega)
      · exact ih hl z hz
theorem nmL_let (f : Int) : ∀ z ∈ nmL f, 97 ≤ z ∧ z ≤ 122 := by
  unfold nmL; repeat' split
  all_goals (intro z hz; simp at hz; omega)
theorem shV_dig (p : Pm) {s t : List Int} (hs : Byt s) (ht : Byt t) (f : Int) : ∀ z ∈ shV p s t f, 48 ≤ z ∧ z ≤ 102 := by
  unfold shV; split
  · exact hx_dig hs
  · split
    · exact hx_dig ht
    · intro z hz; have := dcs_dig _ z hz; omega
theorem wordL_ok (p : Pm) {s t : List Int} (hs : Byt s) (ht : Byt t) (f : Int) : ∀ z ∈ wordL p s t f, 48 ≤ z ∧ z ≤ 122 := by
  intro z hz
  unfold wordL at hz
  rw [List.mem_append, List.mem_append] at hz
  rcases hz with (hz | hz) | hz
  · have := nmL_let f z hz; omega
  · simp at hz; omega
  · have := shV_dig p hs ht f z hz; omega
theorem wsN_ok (kd : Int) (p : Pm) {s t : List Int} (hs : Byt s) (ht : Byt t) (n : Nat) : ∀ v ∈ wsN kd p s t n, ∀ z ∈ v, 48 ≤ z ∧ z ≤ 122 := by
  induction n with
  | zero => intro v hv; cases hv
  | succ n ih =>
    intro v hv
    rw [wsN, List.mem_append] at hv
    rcases hv with hv | hv
    · split at hv
      · cases hv
      · simp at hv; subst hv; exact wordL_ok p hs ht _
    · exact ih v hv
theorem knL_ok (kd : Int) : ∀ z ∈ knL kd, 48 ≤ z ∧ z ≤ 122 := by
  unfold knL; split
  all_goals (intro z hz; simp at hz; omega)
theorem map_joinI (ws : List (List Int)) : (joinI ws).map u8 = joinC 32 (ws.map (List.map u8)) := by
  induction ws with
  | nil => rfl
  | cons w ws ih => simp [joinI, joinC, ih]
theorem free_map {l : List Int} {c : Int} (hc : 0 ≤ c ∧ c < 256) (h : ∀ z ∈ l, 48 ≤ z ∧ z ≤ 122) (hn : c < 48 ∨ (∀ z ∈ l, z ≠ c)) : ∀ z ∈ l.map u8, z ≠ u8 c := by
  intro z hz
  obtain ⟨y, hy, rfl⟩ := List.mem_map.1 hz
  have := h y hy
  refine u8_ne (by omega) hc ?_
  rcases hn with hn | hn
  · omega
  · exact hn y hy
theorem ba_ext {a b : ByteArray} (h : a.data.toList = b.data.toList) : a = b := by
  apply ByteArray.ext
  exact Array.ext' h
/-- Split at one blank. -/
theorem splitI (w0 : List Int) (ws : List (List Int)) (h0 : ∀ z ∈ w0, 48 ≤ z ∧ z ≤ 122) (hs : ∀ v ∈ ws, ∀ z ∈ v, 48 ≤ z ∧ z ≤ 122) :
    Lib.countB (strOfNums (w0 ++ joinI ws)) ⟨#[32]⟩ = ws.length ∧ Lib.splitB ⟨#[32]⟩ 0 ws.length (strOfNums (w0 ++ joinI ws)) = (w0 :: ws).map strOfNums := by
  have f0 : ∀ z ∈ w0.map u8, z ≠ 32 := free_map (c := 32) (by omega) h0 (.inl (by omega))
  have fs : ∀ v ∈ ws.map (List.map u8), ∀ z ∈ v, z ≠ 32 := fun v hv => by
    obtain ⟨y, hy, rfl⟩ := List.mem_map.1 hv
    exact free_map (c := 32) (by omega) (hs y hy) (.inl (by omega))
  have hd : (strOfNums (w0 ++ joinI ws)).data.toList = w0.map u8 ++ joinC 32 (ws.map (List.map u8)) := by
    rw [strOfNums_data, List.map_append]
    congr 1
    exact map_joinI ws
  constructor
  · show Lib.count (strOfNums (w0 ++ joinI ws)).data.toList [32] = _
    rw [hd, count_join 32 _ _ f0 fs, List.length_map]
  · have h1 := Lib.splitB_data ⟨#[32]⟩ 0 ws.length (strOfNums (w0 ++ joinI ws))
    rw [hd] at h1
    have h2 := split_join 32 (w0.map u8) (ws.map (List.map u8)) f0 fs
    rw [List.length_map] at h2
    have h3 : (Lib.splitB ⟨#[32]⟩ 0 ws.length (strOfNums (w0 ++ joinI ws))).map (·.data.toList) = ((w0 :: ws).map strOfNums).map (·.data.toList) := by
      rw [h1]
      show Lib.splitK [32] 0 ws.length _ = _
      rw [h2]
      simp [strOfNums_data]
    have inj : ∀ a b : List ByteArray, a.map (·.data.toList) = b.map (·.data.toList) → a = b := by
      intro a
      induction a with
      | nil => intro b h; cases b with | nil => rfl | cons _ _ => simp at h
      | cons x a ih =>
        intro b h
        cases b with
        | nil => simp at h
        | cons y b =>
          simp only [List.map_cons, List.cons.injEq] at h
          rw [ba_ext h.1, ih b h.2]
    exact inj _ _ h3
theorem hi9 : (Tryd.prog.info? 9).map (fun i => (i.zero, i.size, i.bytes)) = some (some (.string ByteArray.empty), 1, 16) := by kernel_rfl
theorem split_ (w0 : List Int) (ws : List (List Int)) (m : Int) (w : World) (h0 : ∀ z ∈ w0, 48 ≤ z ∧ z ≤ 122) (hs : ∀ v ∈ ws, ∀ z ∈ v, 48 ≤ z ∧ z ≤ 122) (hl : (w0 ++ joinI ws).length ≤ 512) (hm : w.cell? ⟨1, 0, none⟩ = some (.int .i64 m)) :
    Calls Tryd.prog 62 #[.string (strOfNums (w0 ++ joinI ws)), .string { data := #[32] }] w fun e w' =>
      e = .returned (.slice (some ⟨w.heap.size, 0, none⟩) (ws.length + 1) (ws.length + 1)) ∧ w' = w.alloc (.cells (((w0 :: ws).map strOfNums).map Value.string).toArray 9) := by
  have h := Any.strings_Split (P := Tryd.prog) (ρ := laysSP_ren) laysSP hi9 (strOfNums (w0 ++ joinI ws)) ⟨#[32]⟩ m w (by rw [strOf_size]; omega) hm (by decide)
  obtain ⟨e1, e2⟩ := splitI w0 ws h0 hs
  rw [e1, e2] at h
  exact h
theorem cut_ (f : Int) (v : List Int) (m : Int) (w : World) (hv : v.length ≤ 512) (hm : w.cell? ⟨1, 0, none⟩ = some (.int .i64 m)) :
    Calls Tryd.prog 70 #[.string (strOfNums (nmL f ++ [61] ++ v)), .string { data := #[61] }] w fun e w' =>
      e = .returned (.tuple #[.string (strOfNums (nmL f)), .string (strOfNums v), .bool true]) ∧ Below w.heap.size w w' := by
  have hn := nmL_len f
  have h := Any.strings_Cut (P := Tryd.prog) (ρ := laysCU_ren) laysCU (strOfNums (nmL f ++ [61] ++ v)) ⟨#[61]⟩ m w (by rw [strOf_size]; simp; omega) hm
  have hc : Lib.cut (strOfNums (nmL f ++ [61] ++ v)).data.toList (⟨#[61]⟩ : ByteArray).data.toList = ((nmL f).map u8, v.map u8, true) := by
    rw [strOfNums_data]
    have := cut_here 61 ((nmL f).map u8) (v.map u8) (free_map (c := 61) (by omega) (fun z hz => by have := nmL_let f z hz; omega) (.inr fun z hz => by have := nmL_let f z hz; omega))
    rw [← this]
    simp
  rw [hc] at h
  refine h.mono ?_
  rintro e w' ⟨rfl, n, rfl⟩
  exact ⟨rfl, below_drewN (Below.refl _ _) _⟩
theorem parse_ (u : Nat) (h : u < 18446744073709551616) (w : World) :
    Calls Tryd.prog 92 #[.string (strOfNums (dcs u)), .int .i64 10, .int .i64 64] w fun e w' => e = .returned (.tuple #[.int .u64 u, .nilIface]) ∧ Below w.heap.size w w' := by
  have hl := dcs_len64 u h
  have h1 := Any.strconv_ParseUint_10_at64_ok (P := Tryd.prog) (ρ := laysPU_ren) laysPU (strOfNums (dcs u)) (by rw [strOf_size]; omega) u (parse_dcs u h) w
  refine h1.mono ?_
  rintro e w' ⟨rfl, rfl | rfl⟩
  · exact ⟨rfl, Below.refl _ _⟩
  · exact ⟨rfl, Lib.bytesWorld_below _ _ _⟩
end LW
end Go.Proofs.YteakoajkmcbilabDoor
namespace Go.Proofs.YteakoajkmcbilabDoor
open Go.RowKit Go.Shelf
set_option linter.unusedVariables false
set_option linter.unusedSimpArgs false
namespace LW
open Words Txt
abbrev Tab10 (W : World) : Prop := Lib.TabIs Tryd.prog W "internal/strconv.uint64pow10" .u64 Lib.pow10Tab
/-- Bytes in memory of their own, no block of it below 'B'. -/
structure Pn (w : World) (B : Nat) (a : Option Addr) (c : Nat) (s : List Int) : Prop extends Pb w a c s where
  far : ∀ ad, a = some ad → B ≤ ad.block
theorem Pn.below {w w' : World} {B : Nat} {a : Option Addr} {c : Nat} {s : List Int} (h : Pn w B a c s) (hb : Below w.heap.size w w') : Pn w' B a c s := ⟨h.toPb.below hb, h.far⟩
theorem Pn.mono {w : World} {B B' : Nat} {a : Option Addr} {c : Nat} {s : List Int} (h : Pn w B a c s) (hb : B' ≤ B) : Pn w B' a c s := ⟨h.toPb, fun ad e => Nat.le_trans hb (h.far ad e)⟩
theorem Pn_nil (w : World) (B : Nat) : Pn w B none 0 [] := ⟨⟨.inl rfl, (fun _ => rfl), by simp, Nat.le_refl _, Byt.nil⟩, fun ad h => by cases h⟩
theorem Pn.own {w : World} {B : Nat} {v : Value} {s : List Int} (h : w.ownsRow B 5 1 v s.length (vs s)) (hl : s.length ≤ 140737488351232) (hb : Byt s) : ∃ a c, v = .slice a s.length c ∧ Pn w B a c s := by
  obtain ⟨a, c, rfl, hp⟩ := Pa.own h hl hb
  refine ⟨a, c, rfl, hp.toPb, fun ad e => ?_⟩
  rcases h.2 with ⟨e1, h0⟩ | ⟨g, cap, cur, e1, hg, _⟩
  · injection e1 with e1; rw [e1] at e; cases e
  · injection e1 with e1; rw [e1] at e; injection e with e; rw [← e]; exact hg
theorem Pn.set {w : World} {B : Nat} {a : Option Addr} {c : Nat} {s : List Int} (h : Pn w B a c s) {g i : Nat} (hg : g < B) (u : Value) : Pn (w.setCell ⟨g, i, none⟩ u) B a c s := by
  refine ⟨⟨?_, h.nil, h.len, h.cap, h.byt⟩, h.far⟩
  rcases h.row with h0 | ⟨b, off, rfl, hc⟩
  · exact .inl h0
  · refine .inr ⟨b, off, rfl, fun j hj => ?_⟩
    have := h.far _ rfl
    rw [World.cell?_setCell_other _ _ _ _ (by intro e; injection e with e; simp only at this; omega)]
    exact hc j hj
set_option maxRecDepth 100000 in
theorem readNum (u : Nat) (at_ : Int) (w : World) (h : u < 18446744073709551616) (htab : ∀ W, Below w.heap.size w W → Tab10 W) :
    Calls Tryd.prog 81 #[.string (strOfNums (dcs u)), .int .i64 at_] w fun e w' => e = .returned (.int .u64 u) ∧ Below w.heap.size w w' := by
  have HP := TW.hide (fun W => parse_ u h W)
  have HF := TW.hide (fun W ht => fmtU u h W ht)
  have HT := TW.hide htab
  clear htab h
  generalize strOfNums (dcs u) = s at *
  have hne : (s.toList != s.toList) = false := by simp
  have heq : (s.toList == s.toList) = true := by simp
  go_enter Tryd.func81, Tryd.ntmps81
  go_wp2_with fail
  refine (HP.out _).mono ?_
  rintro e w1 ⟨rfl, hb⟩
  have B1 := TW.hide hb
  clear hb
  go_wp2_with fail
  refine (HF.out _ (HT.out _ B1.out)).mono ?_
  rintro e w2 ⟨rfl, hb⟩
  have B2 : Hid (Below w.heap.size w w2) := below_row B1.out hb B1.out.size
  clear hb
  go_wp2_with fail
  go_ret
  exact ⟨rfl, B2.out⟩
set_option maxRecDepth 100000 in
theorem readByt (S : List Int) (at_ : Int) (w : World) (h : Byt S) (hl : S.length ≤ 64) :
    Calls Tryd.prog 80 #[.string (strOfNums (hx S)), .int .i64 at_] w fun e w' => ∃ a c, e = .returned (.slice a S.length c) ∧ Pn w' w.heap.size a c S ∧ Below w.heap.size w w' := by
  have HU : Hid (∀ W : World, Calls Tryd.prog 91 #[.string (strOfNums (hx S))] W fun e w' => ∃ v, e = .returned (.tuple #[v, .int .i64 0, .int .i64 0]) ∧ w'.ownsRow W.heap.size 5 1 v S.length (vs S) ∧ Below W.heap.size W w') := fun W => by
    have h1 := unhex (strOfNums (hx S)) W (by rw [strOf_size, hx_length]; omega)
    rw [sb_str _ (hx_byt h), hexB_hx h, hexE_hx h, hexAt_hx h] at h1
    exact h1
  have HH := TW.hide (fun a cap W (hr : Row W a S) => hex a cap S W h hr (by omega))
  have hne : ((strOfNums (hx S)).toList != (strOfNums (hx S)).toList) = false := by simp
  have heq : ((strOfNums (hx S)).toList == (strOfNums (hx S)).toList) = true := by simp
  generalize strOfNums (hx S) = s at *
  go_enter Tryd.func80, Tryd.ntmps80
  go_wp2_with fail
  refine (HU.out _).mono ?_
  rintro e w1 ⟨v, rfl, ho, hb⟩
  obtain ⟨a, cap, rfl, hp⟩ := Pn.own ho (by omega) h
  have HO := TW.hide hp
  have B1 := TW.hide hb
  clear hb ho hp hl h
  generalize hn : S.length = n at *
  go_wp2_with fail
  refine (HH.out _ _ _ HO.out.row).mono ?_
  rintro e w2 ⟨rfl, hb⟩
  have B2 : Hid (Below w.heap.size w w2) := below_row B1.out hb B1.out.size
  have HO2 := TW.hide (HO.out.below hb)
  clear hb
  go_wp2_with fail
  go_ret
  exact ⟨a, cap, by rw [hn]; rfl, HO2.out, B2.out⟩
theorem readK (kd : Int) (hk : kd = 1 ∨ kd = 2) (w : World) :
    Calls Tryd.prog 63 #[.string (strOfNums (knL kd))] w fun e w' => e = .returned (.int .i64 kd) ∧ w = w' := by
  rcases hk with rfl | rfl
  · have e1 : strOfNums (knL 1) = { data := #[50, 98] } := by rfl
    rw [e1]
    go_enter Tryd.func63, Tryd.ntmps63
    go_wp2
    go_ret
    exact ⟨rfl, rfl⟩
  · have e1 : strOfNums (knL 2) = { data := #[50, 115] } := by rfl
    rw [e1]
    go_enter Tryd.func63, Tryd.ntmps63
    go_wp2
    go_ret
    exact ⟨rfl, rfl⟩
set_option maxHeartbeats 4000000 in
/-- setNumber, where the parameters are a struct's second field. -/
theorem setNum (b : Nat) (fd n : Int) (w : World) (hc : ∀ i : Nat, i < 26 → ∃ v, w.cell? ⟨b, i, none⟩ = some v) (hz : ∀ i : Nat, w.frozen? ⟨b, i, none⟩ = false) (h1 : 1 ≤ fd) (h9 : fd ≤ 9) (n0 : 0 ≤ n) (n1 : fd ≠ 6 → n < 4294967296) (n2 : fd ≠ 6 → fd ≠ 5 → fd ≠ 7 → n ≤ 255) (n3 : n < 18446744073709551616) :
    Calls Tryd.prog 51 #[.pointer (some ⟨b, 1, none⟩), .int .i64 fd, .int .u64 n] w fun e w' => e = .returned (.tuple #[]) ∧ w' = w.setCell ⟨b, fd.toNat, none⟩ (nk fd n) := by
  have hf : fd = 1 ∨ fd = 2 ∨ fd = 3 ∨ fd = 4 ∨ fd = 5 ∨ fd = 6 ∨ fd = 7 ∨ fd = 8 ∨ fd = 9 := by omega
  obtain ⟨v1, c1⟩ := hc 1 (by omega)
  obtain ⟨v2, c2⟩ := hc 2 (by omega)
  obtain ⟨v3, c3⟩ := hc 3 (by omega)
  obtain ⟨v4, c4⟩ := hc 4 (by omega)
  obtain ⟨v5, c5⟩ := hc 5 (by omega)
  obtain ⟨v6, c6⟩ := hc 6 (by omega)
  obtain ⟨v7, c7⟩ := hc 7 (by omega)
  obtain ⟨v8, c8⟩ := hc 8 (by omega)
  obtain ⟨v9, c9⟩ := hc 9 (by omega)
  clear hc
  have f1 := hz 1
  have f2 := hz 2
  have f3 := hz 3
  have f4 := hz 4
  have f5 := hz 5
  have f6 := hz 6
  have f7 := hz 7
  have f8 := hz 8
  have f9 := hz 9
  clear hz
  have hw : fd ≠ 6 → IntKind.u32.wrap n = n := fun h => by rw [IntKind.wrap_u32]; have := n1 h; omega
  have hm : n ≤ 2147483647 ∨ (¬ n ≤ 2147483647 ∧ 2147483647 < n ∧ (fd = 5 ∨ fd = 6 ∨ fd = 7)) := by
    by_cases h : n ≤ 2147483647
    · exact .inl h
    · refine .inr ⟨h, by omega, ?_⟩
      by_cases h6 : fd = 6
      · omega
      · by_cases h5 : fd = 5
        · omega
        · by_cases h7 : fd = 7
          · omega
          · have := n2 h6 h5 h7; omega
  clear n1 n2 h1 h9
  rcases hm with hm | ⟨hm, hm', hc⟩
  · rcases hf with rfl | rfl | rfl | rfl | rfl | rfl | rfl | rfl | rfl
    all_goals
      first | have hw' := hw (by omega) | skip
      clear hw
      go_enter Tryd.func51, Tryd.ntmps51
      go_wp2
      go_end0
      first | exact ⟨rfl, rfl⟩ | exact ⟨rfl, by rw [Int.min_eq_left hm]; rfl⟩
  · clear hf
    rcases hc with rfl | rfl | rfl
    all_goals
      first | have hw' := hw (by omega) | skip
      clear hw
      go_enter Tryd.func51, Tryd.ntmps51
      go_wp2
      go_end0
      exact ⟨rfl, rfl⟩
end LW
end Go.Proofs.YteakoajkmcbilabDoor
namespace Go.Proofs.YteakoajkmcbilabDoor
open Go.RowKit Go.Shelf
set_option linter.unusedVariables false
set_option linter.unusedSimpArgs false
namespace LW
open Words Txt
/-- What a line holds: 26 cells. -/
structure Lc (w : World) (g : Nat) (cs : Array Value) : Prop where
  blk : w.heap[g]? = some (.cells cs 80 (0, 0))
  size : cs.size = 26
theorem Lc.below {w w' : World} {g : Nat} {cs : Array Value} (h : Lc w g cs) (hb : Below w.heap.size w w') : Lc w' g cs := ⟨blk_keep h.blk hb, h.size⟩
theorem Lc.set {w : World} {g : Nat} {cs : Array Value} (h : Lc w g cs) (i : Nat) (u : Value) : Lc (w.setCell ⟨g, i, none⟩ u) g (cs.setIfInBounds i u) := ⟨blk_set h.blk, by rw [Array.size_setIfInBounds]; exact h.size⟩
theorem Lc.cell {w : World} {g : Nat} {cs : Array Value} (h : Lc w g cs) {i : Nat} {v : Value} (hi : cs[i]? = some v) : w.cell? ⟨g, i, none⟩ = some v := blk_cell h.blk hi
theorem Lc.has {w : World} {g : Nat} {cs : Array Value} (h : Lc w g cs) (i : Nat) (hi : i < 26) : ∃ v, w.cell? ⟨g, i, none⟩ = some v := ⟨cs[i]'(by rw [h.size]; exact hi), h.cell (by rw [Array.getElem?_eq_getElem (by rw [h.size]; exact hi)])⟩
theorem Lc.free {w : World} {g : Nat} {cs : Array Value} (h : Lc w g cs) (i : Nat) : w.frozen? ⟨g, i, none⟩ = false := by
  have := h.blk
  simp [World.frozen?, this]
theorem Lc.same {w w' : World} {g : Nat} {cs : Array Value} (h : Lc w g cs) (e : w'.heap = w.heap) : Lc w' g cs := ⟨by rw [e]; exact h.blk, h.size⟩
theorem Lc.lt {w : World} {g : Nat} {cs : Array Value} (h : Lc w g cs) : g < w.heap.size := blk_lt h.blk
set_option maxRecDepth 100000 in
set_option maxHeartbeats 4000000 in
theorem readVN (g : Nat) (cs : Array Value) (f : Int) (u : Nat) (at_ : Int) (x1 x2 x3 x4 x5 x6 : Value) (w : World) (hL : Lc w g cs) (hw : cs[25]? = some (.int .i64 0)) (h1 : 1 ≤ f) (h9 : f ≤ 9)
    (n1 : f ≠ 6 → u < 4294967296) (n2 : f ≠ 6 → f ≠ 5 → f ≠ 7 → u ≤ 255) (n3 : u < 18446744073709551616) (htab : ∀ W, Below w.heap.size w W → Tab10 W) :
    Calls Tryd.prog 71 #[.pointer (some ⟨g, 0, none⟩), .agg #[.int .i64 f, x1, x2, x3, x4, x5, x6], .string (strOfNums (dcs u)), .int .i64 at_] w fun e w' => e = .returned (.tuple #[]) ∧ ∃ Z, Below w.heap.size w Z ∧ w' = Z.setCell ⟨g, f.toNat, none⟩ (nk f u) := by
  have HN := TW.hide (fun W ht => readNum u at_ W n3 ht)
  have HS : Hid (∀ W : World, Lc W g cs → Calls Tryd.prog 51 #[.pointer (some ⟨g, 1, none⟩), .int .i64 f, .int .u64 u] W fun e w' => e = .returned (.tuple #[]) ∧ w' = W.setCell ⟨g, f.toNat, none⟩ (nk f u)) := fun W hW =>
    setNum g f u W (fun i hi => hW.has i hi) (fun i => hW.free i) h1 h9 (by omega) (fun h => by have := n1 h; omega) (fun a b c => by have := n2 a b c; omega) (by omega)
  have HT := TW.hide htab
  have b0 := (Below.refl w.heap.size w).alloc (Nat.le_refl _) (.cells #[.int .i64 f, x1, x2, x3, x4, x5, x6] 62)
  have r0 := heap_alloc_new w (.cells #[.int .i64 f, x1, x2, x3, x4, x5, x6] 62)
  have l0 := hL.below b0
  have e10 : (f == 10) = false := by simp; omega
  have e11 : (f == 11) = false := by simp; omega
  have hbig : ((f == 5) = true ∨ (f == 7) = true) → ¬ (4294967295 : Int) < (u : Int) := by
    intro h
    have h6 : f ≠ 6 := by
      rcases h with h | h <;> (have := beq_iff_eq.1 h; omega)
    have := n1 h6
    omega
  clear n1 n2 htab h1 h9 hL
  generalize nk f u = nv at *
  generalize strOfNums (dcs u) = s at *
  go_enter Tryd.func71, Tryd.ntmps71
  refine wp_seq_k fun K hK => ?_
  have HK := TW.hide hK
  clear hK
  go_wp2
  refine HK.out _ _ ?_
  clear HK K
  generalize w.alloc _ = W at *
  generalize hB : w.heap.size = B at *
  have c0 : W.cell? ⟨B, 0, none⟩ = some (.int .i64 f) := blk_cell r0 rfl
  have R0 := TW.hide r0
  have L0 := TW.hide l0
  have B0 := TW.hide b0
  have HWW := TW.hide hw
  clear r0 l0 b0 hw
  go_wp2_with fail
  refine (HN.out _ (fun Z hZ => HT.out Z (below_row B0.out hZ (by have := blk_lt R0.out; omega)))).mono ?_
  rintro e w1 ⟨rfl, hb⟩
  have R1 := TW.hide (blk_keep R0.out hb)
  have L1 := TW.hide (L0.out.below hb)
  have B1 : Hid (Below B w w1) := below_row B0.out hb (by have := blk_lt R0.out; omega)
  clear hb R0 L0 B0 c0
  have c0 : w1.cell? ⟨B, 0, none⟩ = some (.int .i64 f) := blk_cell R1.out rfl
  have c25 : w1.cell? ⟨g, 25, none⟩ = some (.int .i64 0) := L1.out.cell HWW.out
  cases q5 : (f == 5) <;> cases q7 : (f == 7)
  · first | have hb' := hbig (.inl q5) | have hb' := hbig (.inr q7) | skip
    clear hbig
    go_wp2_with fail
    refine wp_region_noPanic ?_
    refine RG.wp_region_L (fun Z => Z.heap = w1.heap) (fun Z => True) [6] (by kernel_rfl) ?_
    refine RG.wpL_any fun Ya hY => ?_
    have HYa : Hid (Ya.heap = w1.heap) := by rw [hY]; rfl
    have HBY : Hid (Below B w Ya) := by rw [hY]; exact B1.out.drew
    clear hY
    refine RG.wpL_take (fuel := 1) (a' := ?Aa) [0, 1, 2, 3, 4, 5] (by kernel_rfl) (by kernel_rfl) (fun _ _ _ _ _ h => h) trivial (fun _ => HYa.out) ?ra ?_
    case ra =>
      refine RG.RunsIf.weak (v := ?_) (by rfl) (by rfl) (fun Z hT => ?_) ?_
      rotate_left
      · go_simp
        rfl
      simp only [Act.put, List.setIfInBounds_toArray, List.set_cons_zero, List.set_cons_succ, List.getElem_toArray, List.getElem_cons_zero, List.getElem_cons_succ]
      refine RG.RunsIf.weak (v := ?_) (by rfl) (by rfl) (fun Z hT => ?_) ?_
      rotate_left
      · go_simp
        rfl
      simp only [Act.put, List.setIfInBounds_toArray, List.set_cons_zero, List.set_cons_succ, List.getElem_toArray, List.getElem_cons_zero, List.getElem_cons_succ]
      refine RG.RunsIf.weak (v := ?_) (by rfl) (by rfl) (fun Z hT => ?_) ?_
      rotate_left
      · go_simp
        rfl
      simp only [Act.put, List.setIfInBounds_toArray, List.set_cons_zero, List.set_cons_succ, List.getElem_toArray, List.getElem_cons_zero, List.getElem_cons_succ]
      refine RG.RunsIf.weak (v := ?_) (by rfl) (by rfl) (fun Z hT => ?_) ?_
      rotate_left
      · go_simp
        rfl
      simp only [Act.put, List.setIfInBounds_toArray, List.set_cons_zero, List.set_cons_succ, List.getElem_toArray, List.getElem_cons_zero, List.getElem_cons_succ]
      refine RG.RunsIf.strong (v := .int .i64 f) (by rfl) (by kernel_rfl) (by rfl) (fun Z hT hS => ?_) ?_
      · have cz : Z.cell? ⟨B, 0, none⟩ = some (.int .i64 f) := blk_cell (by rw [hS]; exact R1.out) rfl
        go_simp
      simp only [Act.put, List.setIfInBounds_toArray, List.set_cons_zero, List.set_cons_succ, List.getElem_toArray, List.getElem_cons_zero, List.getElem_cons_succ]
      refine RG.RunsIf.weak (v := ?_) (by rfl) (by rfl) (fun Z hT => ?_) ?_
      rotate_left
      · go_simp
        rfl
      simp only [Act.put, List.setIfInBounds_toArray, List.set_cons_zero, List.set_cons_succ, List.getElem_toArray, List.getElem_cons_zero, List.getElem_cons_succ]
      exact RG.RunsIf.nil
    refine RG.wpL_late (i := 6) (by kernel_rfl) (by rfl) (by rfl) (by kernel_rfl) (fun KX hK => ?_)
    have HK := TW.hide hK
    clear hK
    go_simp
    refine (HS.out _ (L1.out.same HYa.out)).mono ?_
    rintro e w2 ⟨rfl, rfl⟩
    refine HK.out _ _ trivial ?_
    clear HK KX
    refine RG.wpL_done (by kernel_rfl) ?_ _
    refine NoPanic.normal ?_
    go_wp2_with fail
    go_end0
    exact ⟨rfl, Ya, HBY.out, rfl⟩
  · first | have hb' := hbig (.inl q5) | have hb' := hbig (.inr q7) | skip
    clear hbig
    go_wp2_with fail
    refine wp_region_noPanic ?_
    refine RG.wp_region_L (fun Z => Z.heap = w1.heap) (fun Z => True) [6] (by kernel_rfl) ?_
    refine RG.wpL_any fun Yb hY => ?_
    have HYb : Hid (Yb.heap = w1.heap) := by rw [hY]; rfl
    have HBY : Hid (Below B w Yb) := by rw [hY]; exact B1.out.drew
    clear hY
    refine RG.wpL_take (fuel := 1) (a' := ?Ab) [0, 1, 2, 3, 4, 5] (by kernel_rfl) (by kernel_rfl) (fun _ _ _ _ _ h => h) trivial (fun _ => HYb.out) ?rb ?_
    case rb =>
      refine RG.RunsIf.weak (v := ?_) (by rfl) (by rfl) (fun Z hT => ?_) ?_
      rotate_left
      · go_simp
        rfl
      simp only [Act.put, List.setIfInBounds_toArray, List.set_cons_zero, List.set_cons_succ, List.getElem_toArray, List.getElem_cons_zero, List.getElem_cons_succ]
      refine RG.RunsIf.weak (v := ?_) (by rfl) (by rfl) (fun Z hT => ?_) ?_
      rotate_left
      · go_simp
        rfl
      simp only [Act.put, List.setIfInBounds_toArray, List.set_cons_zero, List.set_cons_succ, List.getElem_toArray, List.getElem_cons_zero, List.getElem_cons_succ]
      refine RG.RunsIf.weak (v := ?_) (by rfl) (by rfl) (fun Z hT => ?_) ?_
      rotate_left
      · go_simp
        rfl
      simp only [Act.put, List.setIfInBounds_toArray, List.set_cons_zero, List.set_cons_succ, List.getElem_toArray, List.getElem_cons_zero, List.getElem_cons_succ]
      refine RG.RunsIf.weak (v := ?_) (by rfl) (by rfl) (fun Z hT => ?_) ?_
      rotate_left
      · go_simp
        rfl
      simp only [Act.put, List.setIfInBounds_toArray, List.set_cons_zero, List.set_cons_succ, List.getElem_toArray, List.getElem_cons_zero, List.getElem_cons_succ]
      refine RG.RunsIf.strong (v := .int .i64 f) (by rfl) (by kernel_rfl) (by rfl) (fun Z hT hS => ?_) ?_
      · have cz : Z.cell? ⟨B, 0, none⟩ = some (.int .i64 f) := blk_cell (by rw [hS]; exact R1.out) rfl
        go_simp
      simp only [Act.put, List.setIfInBounds_toArray, List.set_cons_zero, List.set_cons_succ, List.getElem_toArray, List.getElem_cons_zero, List.getElem_cons_succ]
      refine RG.RunsIf.weak (v := ?_) (by rfl) (by rfl) (fun Z hT => ?_) ?_
      rotate_left
      · go_simp
        rfl
      simp only [Act.put, List.setIfInBounds_toArray, List.set_cons_zero, List.set_cons_succ, List.getElem_toArray, List.getElem_cons_zero, List.getElem_cons_succ]
      exact RG.RunsIf.nil
    refine RG.wpL_late (i := 6) (by kernel_rfl) (by rfl) (by rfl) (by kernel_rfl) (fun KX hK => ?_)
    have HK := TW.hide hK
    clear hK
    go_simp
    refine (HS.out _ (L1.out.same HYb.out)).mono ?_
    rintro e w2 ⟨rfl, rfl⟩
    refine HK.out _ _ trivial ?_
    clear HK KX
    refine RG.wpL_done (by kernel_rfl) ?_ _
    refine NoPanic.normal ?_
    go_wp2_with fail
    go_end0
    exact ⟨rfl, Yb, HBY.out, rfl⟩
  · first | have hb' := hbig (.inl q5) | have hb' := hbig (.inr q7) | skip
    clear hbig
    go_wp2_with fail
    refine wp_region_noPanic ?_
    refine RG.wp_region_L (fun Z => Z.heap = w1.heap) (fun Z => True) [6] (by kernel_rfl) ?_
    refine RG.wpL_any fun Yc hY => ?_
    have HYc : Hid (Yc.heap = w1.heap) := by rw [hY]; rfl
    have HBY : Hid (Below B w Yc) := by rw [hY]; exact B1.out.drew
    clear hY
    refine RG.wpL_take (fuel := 1) (a' := ?Ac) [0, 1, 2, 3, 4, 5] (by kernel_rfl) (by kernel_rfl) (fun _ _ _ _ _ h => h) trivial (fun _ => HYc.out) ?rc ?_
    case rc =>
      refine RG.RunsIf.weak (v := ?_) (by rfl) (by rfl) (fun Z hT => ?_) ?_
      rotate_left
      · go_simp
        rfl
      simp only [Act.put, List.setIfInBounds_toArray, List.set_cons_zero, List.set_cons_succ, List.getElem_toArray, List.getElem_cons_zero, List.getElem_cons_succ]
      refine RG.RunsIf.weak (v := ?_) (by rfl) (by rfl) (fun Z hT => ?_) ?_
      rotate_left
      · go_simp
        rfl
      simp only [Act.put, List.setIfInBounds_toArray, List.set_cons_zero, List.set_cons_succ, List.getElem_toArray, List.getElem_cons_zero, List.getElem_cons_succ]
      refine RG.RunsIf.weak (v := ?_) (by rfl) (by rfl) (fun Z hT => ?_) ?_
      rotate_left
      · go_simp
        rfl
      simp only [Act.put, List.setIfInBounds_toArray, List.set_cons_zero, List.set_cons_succ, List.getElem_toArray, List.getElem_cons_zero, List.getElem_cons_succ]
      refine RG.RunsIf.weak (v := ?_) (by rfl) (by rfl) (fun Z hT => ?_) ?_
      rotate_left
      · go_simp
        rfl
      simp only [Act.put, List.setIfInBounds_toArray, List.set_cons_zero, List.set_cons_succ, List.getElem_toArray, List.getElem_cons_zero, List.getElem_cons_succ]
      refine RG.RunsIf.strong (v := .int .i64 f) (by rfl) (by kernel_rfl) (by rfl) (fun Z hT hS => ?_) ?_
      · have cz : Z.cell? ⟨B, 0, none⟩ = some (.int .i64 f) := blk_cell (by rw [hS]; exact R1.out) rfl
        go_simp
      simp only [Act.put, List.setIfInBounds_toArray, List.set_cons_zero, List.set_cons_succ, List.getElem_toArray, List.getElem_cons_zero, List.getElem_cons_succ]
      refine RG.RunsIf.weak (v := ?_) (by rfl) (by rfl) (fun Z hT => ?_) ?_
      rotate_left
      · go_simp
        rfl
      simp only [Act.put, List.setIfInBounds_toArray, List.set_cons_zero, List.set_cons_succ, List.getElem_toArray, List.getElem_cons_zero, List.getElem_cons_succ]
      exact RG.RunsIf.nil
    refine RG.wpL_late (i := 6) (by kernel_rfl) (by rfl) (by rfl) (by kernel_rfl) (fun KX hK => ?_)
    have HK := TW.hide hK
    clear hK
    go_simp
    refine (HS.out _ (L1.out.same HYc.out)).mono ?_
    rintro e w2 ⟨rfl, rfl⟩
    refine HK.out _ _ trivial ?_
    clear HK KX
    refine RG.wpL_done (by kernel_rfl) ?_ _
    refine NoPanic.normal ?_
    go_wp2_with fail
    go_end0
    exact ⟨rfl, Yc, HBY.out, rfl⟩
  · first | have hb' := hbig (.inl q5) | have hb' := hbig (.inr q7) | skip
    clear hbig
    go_wp2_with fail
    refine wp_region_noPanic ?_
    refine RG.wp_region_L (fun Z => Z.heap = w1.heap) (fun Z => True) [6] (by kernel_rfl) ?_
    refine RG.wpL_any fun Yd hY => ?_
    have HYd : Hid (Yd.heap = w1.heap) := by rw [hY]; rfl
    have HBY : Hid (Below B w Yd) := by rw [hY]; exact B1.out.drew
    clear hY
    refine RG.wpL_take (fuel := 1) (a' := ?Ad) [0, 1, 2, 3, 4, 5] (by kernel_rfl) (by kernel_rfl) (fun _ _ _ _ _ h => h) trivial (fun _ => HYd.out) ?rd ?_
    case rd =>
      refine RG.RunsIf.weak (v := ?_) (by rfl) (by rfl) (fun Z hT => ?_) ?_
      rotate_left
      · go_simp
        rfl
      simp only [Act.put, List.setIfInBounds_toArray, List.set_cons_zero, List.set_cons_succ, List.getElem_toArray, List.getElem_cons_zero, List.getElem_cons_succ]
      refine RG.RunsIf.weak (v := ?_) (by rfl) (by rfl) (fun Z hT => ?_) ?_
      rotate_left
      · go_simp
        rfl
      simp only [Act.put, List.setIfInBounds_toArray, List.set_cons_zero, List.set_cons_succ, List.getElem_toArray, List.getElem_cons_zero, List.getElem_cons_succ]
      refine RG.RunsIf.weak (v := ?_) (by rfl) (by rfl) (fun Z hT => ?_) ?_
      rotate_left
      · go_simp
        rfl
      simp only [Act.put, List.setIfInBounds_toArray, List.set_cons_zero, List.set_cons_succ, List.getElem_toArray, List.getElem_cons_zero, List.getElem_cons_succ]
      refine RG.RunsIf.weak (v := ?_) (by rfl) (by rfl) (fun Z hT => ?_) ?_
      rotate_left
      · go_simp
        rfl
      simp only [Act.put, List.setIfInBounds_toArray, List.set_cons_zero, List.set_cons_succ, List.getElem_toArray, List.getElem_cons_zero, List.getElem_cons_succ]
      refine RG.RunsIf.strong (v := .int .i64 f) (by rfl) (by kernel_rfl) (by rfl) (fun Z hT hS => ?_) ?_
      · have cz : Z.cell? ⟨B, 0, none⟩ = some (.int .i64 f) := blk_cell (by rw [hS]; exact R1.out) rfl
        go_simp
      simp only [Act.put, List.setIfInBounds_toArray, List.set_cons_zero, List.set_cons_succ, List.getElem_toArray, List.getElem_cons_zero, List.getElem_cons_succ]
      refine RG.RunsIf.weak (v := ?_) (by rfl) (by rfl) (fun Z hT => ?_) ?_
      rotate_left
      · go_simp
        rfl
      simp only [Act.put, List.setIfInBounds_toArray, List.set_cons_zero, List.set_cons_succ, List.getElem_toArray, List.getElem_cons_zero, List.getElem_cons_succ]
      exact RG.RunsIf.nil
    refine RG.wpL_late (i := 6) (by kernel_rfl) (by rfl) (by rfl) (by kernel_rfl) (fun KX hK => ?_)
    have HK := TW.hide hK
    clear hK
    go_simp
    refine (HS.out _ (L1.out.same HYd.out)).mono ?_
    rintro e w2 ⟨rfl, rfl⟩
    refine HK.out _ _ trivial ?_
    clear HK KX
    refine RG.wpL_done (by kernel_rfl) ?_ _
    refine NoPanic.normal ?_
    go_wp2_with fail
    go_end0
    exact ⟨rfl, Yd, HBY.out, rfl⟩
end LW
end Go.Proofs.YteakoajkmcbilabDoor
namespace Go.Proofs.YteakoajkmcbilabDoor
open Go.RowKit Go.Shelf
set_option linter.unusedVariables false
set_option linter.unusedSimpArgs false
namespace LW
open Words Txt
set_option maxRecDepth 100000 in
set_option maxHeartbeats 4000000 in
theorem readVB (g : Nat) (cs : Array Value) (f : Int) (S : List Int) (at_ : Int) (x1 x2 x3 x4 x5 x6 : Value) (w : World) (hL : Lc w g cs) (hf : f = 10 ∨ f = 11) (hS : Byt S) (hl : S.length ≤ 64) :
    Calls Tryd.prog 71 #[.pointer (some ⟨g, 0, none⟩), .agg #[.int .i64 f, x1, x2, x3, x4, x5, x6], .string (strOfNums (hx S)), .int .i64 at_] w fun e w' => e = .returned (.tuple #[]) ∧ ∃ Z a c, Below w.heap.size w Z ∧ Pn Z w.heap.size a c S ∧ w' = Z.setCell ⟨g, f.toNat, none⟩ (.slice a S.length c) := by
  have HN := TW.hide (fun W => readByt S at_ W hS hl)
  have b0 := (Below.refl w.heap.size w).alloc (Nat.le_refl _) (.cells #[.int .i64 f, x1, x2, x3, x4, x5, x6] 62)
  have r0 := heap_alloc_new w (.cells #[.int .i64 f, x1, x2, x3, x4, x5, x6] 62)
  have l0 := hL.below b0
  clear hL hS hl
  generalize strOfNums (hx S) = s at *
  generalize hn : S.length = n at *
  have HNN := TW.hide hn
  clear hn
  rcases hf with rfl | rfl
  all_goals
    go_enter Tryd.func71, Tryd.ntmps71
    refine wp_seq_k fun K hK => ?_
    have HK := TW.hide hK
    clear hK
    go_wp2
    refine HK.out _ _ ?_
    clear HK K
    generalize w.alloc _ = W at *
    generalize hB : w.heap.size = B at *
    have c0 := blk_cell (i := 0) r0 rfl
    have R0 := TW.hide r0
    have L0 := TW.hide l0
    have B0 := TW.hide b0
    clear r0 l0 b0
    go_wp2_with fail
    refine (HN.out _).mono ?_
    rintro e w1 ⟨a, c, rfl, hp, hb⟩
    have L1 := TW.hide (L0.out.below hb)
    have B1 : Hid (Below B w w1) := below_row B0.out hb (by have := blk_lt R0.out; omega)
    have P1 := TW.hide (hp.mono (B' := B) (by have := blk_lt R0.out; omega))
    clear hb R0 L0 B0 c0 hp
    obtain ⟨v10, c10⟩ := L1.out.has 10 (by omega)
    obtain ⟨v11, c11⟩ := L1.out.has 11 (by omega)
    have f10 := L1.out.free 10
    have f11 := L1.out.free 11
    go_wp2_with fail
    go_end0
    exact ⟨rfl, w1, a, c, B1.out, P1.out, rfl⟩
theorem nmL_inj : ∀ a b : Fin 12, 1 ≤ a.val → 1 ≤ b.val → nmL (a.val : Int) = nmL (b.val : Int) → a = b := by decide
theorem nm_ne {a b : Nat} (ha : a < 11) (hb : b < 11) (h : a ≠ b) : ((nmOf ((a : Int) + 1)).toList == (strOfNums (nmL ((b : Int) + 1))).toList) = false := by
  rw [nmOf_eq _ (by omega) (by omega)]
  refine strOf_eqF (nmL_byt _) (nmL_byt _) fun e => ?_
  have := nmL_inj ⟨a + 1, by omega⟩ ⟨b + 1, by omega⟩ (by simp) (by simp) (by simpa using e)
  simp at this
  omega
theorem nm_eq {b : Nat} (hb : b < 11) : ((nmOf ((b : Int) + 1)).toList == (strOfNums (nmL ((b : Int) + 1))).toList) = true := by
  rw [nmOf_eq _ (by omega) (by omega)]; simp
theorem rowName (i : Nat) (h : i < 11) : rowsC[i * 7 + 1]? = some (.string (nmOf ((i : Int) + 1))) := by
  have : i = 0 ∨ i = 1 ∨ i = 2 ∨ i = 3 ∨ i = 4 ∨ i = 5 ∨ i = 6 ∨ i = 7 ∨ i = 8 ∨ i = 9 ∨ i = 10 := by omega
  rcases this with rfl | rfl | rfl | rfl | rfl | rfl | rfl | rfl | rfl | rfl | rfl <;> rfl
/-- A row of the table, as a value. -/
def rowV (f : Int) : List Value := [.int .i64 f, .string (nmOf f), .int .i64 (erOf f), .int .i64 (rAt 1 f), .int .i64 (rSz 1 f), .int .i64 (rAt 2 f), .int .i64 (rSz 2 f)]
theorem rowMid (i : Nat) (h : i < 11) : (rowsC.toList.drop (i * 7)).take 7 = rowV ((i : Int) + 1) := by
  have : i = 0 ∨ i = 1 ∨ i = 2 ∨ i = 3 ∨ i = 4 ∨ i = 5 ∨ i = 6 ∨ i = 7 ∨ i = 8 ∨ i = 9 ∨ i = 10 := by omega
  rcases this with rfl | rfl | rfl | rfl | rfl | rfl | rfl | rfl | rfl | rfl | rfl <;> rfl
end LW
end Go.Proofs.YteakoajkmcbilabDoor
namespace Go.Proofs.YteakoajkmcbilabDoor
open Go.RowKit Go.Shelf
set_option linter.unusedVariables false
set_option linter.unusedSimpArgs false
namespace LW
open Words Txt
theorem info63 : (Tryd.prog.info? 63).map (·.size) = some rowsC.size := by kernel_rfl
theorem rowsC_one : rowsC.all (·.oneCell') = true := by kernel_rfl
set_option maxRecDepth 100000 in
set_option maxHeartbeats 4000000 in
theorem readF (g : Nat) (cs : Array Value) (k r : Nat) (v : List Int) (at_ m : Int) (Q : World → Value → Prop) (w : World) (hL : Lc w g cs) (hk : k < 11) (hr : r ≤ k) (hv : v.length ≤ 512) (hrow : cs[23]? = some (.int .i64 r)) (hm : ∀ W, Below w.heap.size w W → W.cell? ⟨1, 0, none⟩ = some (.int .i64 m))
    (hV : ∀ W, Below w.heap.size w W → Calls Tryd.prog 71 #[.pointer (some ⟨g, 0, none⟩), .agg (rowV ((k : Int) + 1)).toArray, .string (strOfNums v), .int .i64 at_] W fun e w' => e = .returned (.tuple #[]) ∧ ∃ Z val, Below W.heap.size W Z ∧ Q Z val ∧ w' = Z.setCell ⟨g, k + 1, none⟩ val) :
    Calls Tryd.prog 64 #[.pointer (some ⟨g, 0, none⟩), .string (strOfNums (nmL ((k : Int) + 1) ++ [61] ++ v)), .int .i64 at_] w fun e w' => e = .returned (.tuple #[]) ∧
      ∃ Z val, Below w.heap.size w Z ∧ Q Z val ∧ w' = ((Z.setCell ⟨g, k + 1, none⟩ val).setCell ⟨g, 12 + k, none⟩ (.int .i64 at_)).setCell ⟨g, 23, none⟩ (.int .i64 ((k : Int) + 1)) := by
  have HC := TW.hide (fun W hm => cut_ ((k : Int) + 1) v m W hv hm)
  have HR := TW.hide (fun W => rows W)
  have HM := TW.hide hm
  have HV := TW.hide hV
  have HL := TW.hide hL
  have HNE := TW.hide (fun a (h : a < k) => nm_ne (a := a) (b := k) (by omega) hk (by omega))
  have heq := nm_eq hk
  have HE := TW.hide heq
  have HRW := TW.hide hrow
  clear hm hV hL hv heq hrow
  generalize strOfNums (nmL ((k : Int) + 1) ++ [61] ++ v) = s at *
  generalize strOfNums (nmL ((k : Int) + 1)) = nm at *
  generalize strOfNums v = sv at *
  go_enter Tryd.func64, Tryd.ntmps64
  refine wp_seq_k fun KK hK => ?_
  have HK := TW.hide hK
  clear hK
  go_wp2_with fail
  refine (HC.out _ (HM.out _ (Below.refl _ _))).mono ?_
  rintro e w1 ⟨rfl, hb⟩
  have L1 := TW.hide (HL.out.below hb)
  have B1 := TW.hide hb
  clear hb
  go_wp2_with fail
  refine HK.out _ _ ?_
  clear HK KK
  refine wp_seq_k fun KK hK => ?_
  have HK := TW.hide hK
  clear hK
  go_wp2_with fail
  refine (HR.out _).mono ?_
  rintro e w2 ⟨rfl, hb⟩
  have L2 := TW.hide (L1.out.below hb)
  have B2 : Hid (Below w.heap.size w w2) := below_row B1.out hb B1.out.size
  clear hb L1 B1
  have M0 := TW.hide (heap_alloc_new w2 (.cells Tryd.zeroCells63 63))
  go_wp2_with (refine wpList_store_row (by rfl) 63 _ _ (by rfl) w2.heap.size rowsC (by rfl) (by rfl) 63 _ M0.out info63 (by kernel_rfl) rowsC_one ?_)
  refine HK.out _ _ ?_
  clear HK KK
  simp only [Act.put]
  have t1 := setRow_heap _ _ _ rowsC _ _ M0.out
  have hgt : g ≠ w2.heap.size := by have := L2.out.lt; omega
  have l3 : Lc ((w2.alloc (.cells Tryd.zeroCells63 63)).setRow w2.heap.size rowsC) g cs := ⟨by rw [setRow_other _ _ _ _ hgt]; exact blk_alloc L2.out.blk, L2.out.size⟩
  have hs2 := B2.out.size
  have b3 : Below w.heap.size w ((w2.alloc (.cells Tryd.zeroCells63 63)).setRow w2.heap.size rowsC) := below_setRow (B2.out.alloc hs2 _) hs2
  generalize (w2.alloc (.cells Tryd.zeroCells63 63)).setRow w2.heap.size rowsC = X at t1 l3 b3 ⊢
  generalize w2.heap.size = tb at *
  have T1 := TW.hide t1
  have L3 := TW.hide l3
  have B3 := TW.hide b3
  clear t1 l3 b3 M0 L2 B2 HC HR
  have c23 : X.cell? ⟨g, 23, none⟩ = some (.int .i64 r) := L3.out.cell HRW.out
  go_wp2_with fail
  go_loop [10] (fun i => ∃ j : Nat, r ≤ j ∧ j ≤ k ∧ i = .int .i64 j) (fun i => 11 - (intOf i).toNat)
  case atStart => exact ⟨r, Nat.le_refl _, hr, rfl⟩
  case round =>
    obtain ⟨j, hj1, hj2, rfl⟩ := hrel
    clear c23
    have cn : X.cell? ⟨tb, j * 7 + 1, none⟩ = some (.string (nmOf ((j : Int) + 1))) := blk_cell T1.out (rowName j (by omega))
    have hj0 : (0 : Int) ≤ j := by omega
    have hj11 : (j : Int) < 11 := by omega
    by_cases hlt : j < k
    · have hne := HNE.out j hlt
      generalize nmOf ((j : Int) + 1) = nj at *
      go_wp2_with fail
      go_round
      case rel => exact ⟨j + 1, by omega, by omega, by go_num⟩
      case measure => simp [intOf]; omega
    · obtain rfl : j = k := by omega
      have heq := HE.out
      generalize nmOf ((j : Int) + 1) = nj at cn heq
      have RG7 : Hid (X.rangeAt tb (j * 7) (rowV ((j : Int) + 1))) := fun q y hy => by
        rw [← rowMid j hk] at hy
        refine blk_cell T1.out ?_
        rw [List.getElem?_take] at hy
        split at hy
        · rw [List.getElem?_drop, Array.getElem?_toList] at hy; exact hy
        · cases hy
      clear HE
      go_wp2_with (refine wpList_load_mid (by rfl) 62 _ (by rfl) tb (j * 7) (by rfl) (rowV ((j : Int) + 1)) _ RG7.out Tryd.underlying62 rfl (by kernel_rfl) ?_)
      refine (HV.out _ B3.out).mono ?_
      rintro e w4 ⟨rfl, Z, val, hb, hq, rfl⟩
      have lY := (L3.out.below hb).set (j + 1) val
      have BZ : Hid (Below w.heap.size w Z) := below_row B3.out hb B3.out.size
      have HQ := TW.hide hq
      generalize hY : Z.setCell ⟨g, j + 1, none⟩ val = Y at lY ⊢
      have HY := TW.hide hY
      clear hY hq hb HV B3 L3 RG7 T1 cn heq
      obtain ⟨vA, cA⟩ := lY.has (12 + j) (by omega)
      have fA := lY.free (12 + j)
      have lY2 := lY.set (12 + j) (.int .i64 at_)
      obtain ⟨vB, cB⟩ := lY2.has 23 (by omega)
      have fB := lY2.free 23
      clear lY lY2
      go_wp2_with fail
      refine bodyPost_ret (results_none rfl _ _ _) rfl ?_
      exact ⟨rfl, Z, val, BZ.out, HQ.out, by rw [HY.out]⟩
end LW
end Go.Proofs.YteakoajkmcbilabDoor
