/-
  The law on Mix both ways.
-/
import Derived.Test.YtkgemkfajkcgcaaDoorTw1
import Derived.Test.YtkgemkfajkcgcaaDoorLxW
namespace Go.Proofs.YtkgemkfajkcgcaaDoor
open Go.RowKit
set_option linter.unusedVariables false
set_option linter.unusedSimpArgs false
set_option maxRecDepth 100000
namespace LW
open Turn
open Words
attribute [local go_sem ↓] Go.wp_at_zero Go.wp_at_succ
theorem wpList_make_fullG {P : Program} (w : World) {ops : Array Oper} {rest : List Oper} {o : Oper} {a : Act} {Q : Exit → Act → World → Prop}
    (hw : Region.wanted o (yielded ops a.tmps) = true) (l c : Operand) (t : TypeId) (hop : o.op = Op.makeSlice t l c)
    (base : Nat) (e : TypeId) (i : TypeInfo) (z : Value) (size : Nat) (h1 : P.underlying t = some (.slice e)) (h2 : P.info? e = some i) (h3 : i.zero = some z) (h4 : i.size = size)
    (kl kc : IntKind) (L C : Int) (n : Nat) (hl : a.eval l = .int kl L) (hc : a.eval c = .int kc C) (hL : L = (n : Int)) (hC : C = (n : Int)) (b2 : i.bytes * n ≤ 281474976710656) (b3 : n ≤ maxLen) (b4 : base ≤ w.heap.size)
    (hK : ∀ w', w'.ownsRow base e size (.slice (some ⟨w.heap.size, 0, none⟩) n n) n (madeCells z.cells (n * size)).toList → w.grownBy w' none → wpList P ops Q rest (a.put o.dst (.slice (some ⟨w.heap.size, 0, none⟩) n n)) w') :
    wpList P ops Q (o :: rest) a w := by
  simp only [wpList, hw, if_true]
  left
  obtain ⟨w', hrun, r1, r2⟩ := run_make_full (P := P) w base t e i z size h1 h2 h3 h4 kl kc n b2 b3 b4
  subst hL
  subst hC
  unfold Oper.wp
  simp [execOp, hop, hl, hc, hrun, Result.andThen]
  exact hK w' r1 r2
theorem own_row {w : World} {B c : Nat} {a : Option Addr} {l : List Int} (h : w.ownsRow B 5 1 (.slice a 1024 c) 1024 (vs l)) (hl : l.length = 1024) : Row w a l := by
  have h2 : w.ownsRow B 5 1 (.slice a 1024 c) l.length (vs l) := by rw [hl]; exact h
  obtain ⟨a', c', e, hr, _⟩ := row_of_own h2
  injection e with e1 _ _
  subst e1
  exact hr
theorem own_form' {w : World} {B n : Nat} {v : Value} {xs : List Value} (h : w.ownsRow B 5 1 v n xs) : ∃ a cap, v = .slice a n cap := by
  rcases h.2 with ⟨rfl, rfl⟩ | ⟨g, cap, cur, rfl, _⟩
  · exact ⟨none, 0, rfl⟩
  · exact ⟨_, cap, rfl⟩
/-- A block is told. -/
def TlB (w : World) (l : List Int) : Ending → World → Prop := fun e w' => ∃ a c, e = .returned (.slice a 1024 c) ∧ w'.ownsRow w.heap.size 5 1 (.slice a 1024 c) 1024 (vs l) ∧ Below w.heap.size w w'
/-- A block is told, and no error. -/
def TlE (w : World) (l : List Int) : Ending → World → Prop := fun e w' => ∃ a c, e = .returned (.tuple #[.slice a 1024 c, .int .i64 0]) ∧ w'.ownsRow w.heap.size 5 1 (.slice a 1024 c) 1024 (vs l) ∧ Below w.heap.size w w'
theorem tlE {w w' : World} {l : List Int} {e : Ending} (hl : l.length = 1024) (h : AnU w true l e w') : TlE w l e w' := by
  obtain ⟨v, rfl, ho, hb⟩ := h
  simp only [if_true, hl] at ho ⊢
  obtain ⟨a, c, rfl⟩ := own_form' ho
  exact ⟨a, c, rfl, ho, hb⟩
theorem tlB {w w' : World} {l : List Int} {e : Ending} (h : ∃ v, e = .returned v ∧ w'.ownsRow w.heap.size 5 1 v 1024 (vs l) ∧ Below w.heap.size w w') : TlB w l e w' := by
  obtain ⟨v, rfl, ho, hb⟩ := h
  obtain ⟨a, c, rfl⟩ := own_form' ho
  exact ⟨a, c, rfl, ho, hb⟩
theorem mixC (ax : Option Addr) (cx : Nat) (x : List Int) (ay : Option Addr) (cy : Nat) (y : List Int) (w : World) (hp : Tab w 0 .u8 plL) (hx : Byt x) (rx : Row w ax x) (lx : x.length = 1024) (hy : Byt y) (ry : Row w ay y) (ly : y.length = 1024) : Calls Tryd.prog 14 #[.slice ax 1024 cx, .slice ay 1024 cy] w (TlE w (mbL x y)) := by
  have h := bmix ax cx x ay cy y w hx rx hy ry hp
  have hok : (decide (x.length = 1024) && decide (y.length = 1024)) = true := by rw [lx, ly]; rfl
  rw [hok, lx, ly] at h
  exact h.mono fun e w' h => tlE (xbL_length _ _) h
theorem xorC (ax : Option Addr) (cx : Nat) (x : List Int) (ay : Option Addr) (cy : Nat) (y : List Int) (w : World) (hp : Tab w 0 .u8 plL) (hx : Byt x) (rx : Row w ax x) (lx : x.length = 1024) (hy : Byt y) (ry : Row w ay y) (ly : y.length = 1024) : Calls Tryd.prog 11 #[.slice ax 1024 cx, .slice ay 1024 cy] w (TlE w (xbL x y)) := by
  have h := bxor ax cx x ay cy y w hx rx hy ry hp
  have hok : (decide (x.length = 1024) && decide (y.length = 1024)) = true := by rw [lx, ly]; rfl
  rw [hok, lx, ly] at h
  exact h.mono fun e w' h => tlE (xbL_length _ _) h
theorem ovrC (ax : Option Addr) (cx : Nat) (x : List Int) (ay : Option Addr) (cy : Nat) (y : List Int) (ad : Option Addr) (cd : Nat) (d : List Int) (w : World) (hp : Tab w 0 .u8 plL) (hx : Byt x) (rx : Row w ax x) (lx : x.length = 1024) (hy : Byt y) (ry : Row w ay y) (ly : y.length = 1024) (hd : Byt d) (rd : Row w ad d) (ld : d.length = 1024) : Calls Tryd.prog 16 #[.slice ax 1024 cx, .slice ay 1024 cy, .slice ad 1024 cd] w (TlE w (xbL (mbL x y) d)) := by
  have h := bovr ax cx x ay cy y ad cd d w hx rx hy ry hd rd hp
  have hok : (decide (x.length = 1024) && decide (y.length = 1024) && decide (d.length = 1024)) = true := by rw [lx, ly, ld]; rfl
  rw [hok, lx, ly, ld] at h
  exact h.mono fun e w' h => tlE (xbL_length _ _) h
set_option maxHeartbeats 16000000 in
theorem twinsW (as_ : Option Addr) (cs : Nat) (s : List Int) (at_ : Option Addr) (ct : Nat) (t : List Int) (au : Option Addr) (cu : Nat) (u : List Int) (w : World) (hp : Tab w 0 .u8 plL) (hs : Byt s) (rs : Row w as_ s) (ms : s.length ≤ maxLen) (ht : Byt t) (rt : Row w at_ t) (mt : t.length ≤ maxLen) (hu : Byt u) (ru : Row w au u) (mu : u.length ≤ maxLen) :
    Calls Tryd.prog 5 #[.slice as_ s.length cs, .slice at_ t.length ct, .slice au u.length cu] w fun e w' => e = .returned (.bool true) ∧ Below w.heap.size w w' := by
  have HP : Hid (∀ X, Below w.heap.size w X → Tab X 0 .u8 plL) := fun X hX => hp.below hX
  have HBs : Hid (∀ X, Below w.heap.size w X → Calls Tryd.prog 18 #[.slice as_ s.length cs] X (TlB X (blkL s))) := fun X hX => (lblock as_ cs s X hs (rs.below hX) ms).mono fun e w' h => tlB h
  have HBt : Hid (∀ X, Below w.heap.size w X → Calls Tryd.prog 18 #[.slice at_ t.length ct] X (TlB X (blkL t))) := fun X hX => (lblock at_ ct t X ht (rt.below hX) mt).mono fun e w' h => tlB h
  have HBu : Hid (∀ X, Below w.heap.size w X → Calls Tryd.prog 18 #[.slice au u.length cu] X (TlB X (blkL u))) := fun X hX => (lblock au cu u X hu (ru.below hX) mu).mono fun e w' h => tlB h
  have HXB : Hid (Byt (blkL s)) := blkL_Byt hs
  have HYB : Hid (Byt (blkL t)) := blkL_Byt ht
  have HDB : Hid (Byt (blkL u)) := blkL_Byt hu
  have HXL : Hid ((blkL s).length = 1024) := blkL_length s
  have HYL : Hid ((blkL t).length = 1024) := blkL_length t
  have HDL : Hid ((blkL u).length = 1024) := blkL_length u
  clear hp hs rs ms ht rt mt hu ru mu
  generalize blkL s = x at *
  generalize blkL t = y at *
  generalize blkL u = d at *
  have HMC : Hid (mbL y x = mbL x y) := mbL_comm HYB.out HXB.out
  have HMZ : Hid (mbL x x = List.replicate 1024 0) := mbL_self HXB.out
  have HMB : Hid (Byt (mbL x y)) := xbL_Byt (xbL_Byt HXB.out HYB.out) (byL_Byt _)
  have HML : Hid ((mbL x y).length = 1024) := xbL_length _ _
  have HOL : Hid ((xbL (mbL x y) d).length = 1024) := xbL_length _ _
  obtain ⟨i0, hi, hz0, hz1, hz2⟩ := info_parts info5
  go_enter Tryd.func5, Tryd.ntmps5
  go_wp2_with fail
  refine (awake19 w).mono ?_
  rintro e w1 ⟨rfl, hb⟩
  have NB1 : Hid (Below w.heap.size w w1) := hb
  clear hb
  go_wp2_with fail
  refine (HBs.out w1 NB1.out).mono ?_
  rintro e w2 ⟨ax, cx, rfl, ho, hb⟩
  have OX2 := TW.hide ho
  have NB2 : Hid (Below w.heap.size w w2) := NB1.out.trans (hb.mono NB1.out.size)
  clear ho hb NB1
  go_wp2_with fail
  refine (HBt.out w2 NB2.out).mono ?_
  rintro e w3 ⟨ay, cy, rfl, ho, hb⟩
  have OX3 := TW.hide (own_bel OX2.out hb)
  have OY3 := TW.hide ho
  have NB3 : Hid (Below w.heap.size w w3) := NB2.out.trans (hb.mono NB2.out.size)
  clear ho hb NB2 OX2
  go_wp2_with fail
  refine (HBu.out w3 NB3.out).mono ?_
  rintro e w4 ⟨ad, cd, rfl, ho, hb⟩
  have RX : Hid (∀ X, Below w4.heap.size w4 X → Row X ax x) := fun X hX => (own_row (own_bel OX3.out hb) HXL.out).below hX
  have RY : Hid (∀ X, Below w4.heap.size w4 X → Row X ay y) := fun X hX => (own_row (own_bel OY3.out hb) HYL.out).below hX
  have RD : Hid (∀ X, Below w4.heap.size w4 X → Row X ad d) := fun X hX => (own_row ho HDL.out).below hX
  have NB4 : Hid (Below w.heap.size w w4) := NB3.out.trans (hb.mono NB3.out.size)
  have B44 : Hid (Below w4.heap.size w4 w4) := Below.refl _ _
  clear ho hb NB3 OX3 OY3
  have HBW : Hid (∀ X, Below w4.heap.size w4 X → Below w.heap.size w X) := fun X hX => NB4.out.trans (hX.mono NB4.out.size)
  go_wp2_with fail
  refine (mixC ax cx x ay cy y w4 (HP.out w4 NB4.out) HXB.out (RX.out w4 B44.out) HXL.out HYB.out (RY.out w4 B44.out) HYL.out).mono ?_
  rintro e w5 ⟨aa, ca, rfl, ho, hb⟩
  rcases ho.2 with ⟨h0, _⟩ | ⟨ga, cap, cur, h0, hga, hgg, _⟩
  · exact absurd h0 (by intro h; injection h with h1 h2 h3; cases h2)
  have h1 : aa = some ⟨ga, 0, none⟩ := by injection h0
  clear h0
  subst h1
  have HGA : Hid (w4.heap.size ≤ ga ∧ ga < w5.heap.size) := ⟨hga, blk_lt hgg⟩
  clear hga hgg
  have OA5 := TW.hide ho
  have B45 : Hid (Below w4.heap.size w4 w5) := hb
  clear ho hb B44
  go_wp2_with fail
  refine (mixC ay cy y ax cx x w5 (HP.out w5 (HBW.out w5 B45.out)) HYB.out (RY.out w5 B45.out) HYL.out HXB.out (RX.out w5 B45.out) HXL.out).mono ?_
  rintro e w6 ⟨ab, cb, rfl, ho, hb⟩
  rw [HMC.out] at ho
  have OA6 := TW.hide (own_bel OA5.out hb)
  have OB6 := TW.hide ho
  have B46 : Hid (Below w4.heap.size w4 w6) := B45.out.trans (hb.mono B45.out.size)
  clear ho hb B45 OA5
  go_wp2_with fail
  refine (copied19 ax cx x w6 (RX.out w6 B46.out) HXL.out).mono ?_
  rintro e w7 ⟨v, rfl, ho, hb⟩
  obtain ⟨ak, ck, rfl⟩ := own_form' ho
  have OA7 := TW.hide (own_bel OA6.out hb)
  have OB7 := TW.hide (own_bel OB6.out hb)
  have RK7 := TW.hide (own_row ho HXL.out)
  have B47 : Hid (Below w4.heap.size w4 w7) := B46.out.trans (hb.mono B46.out.size)
  clear ho hb B46 OA6 OB6
  go_wp2_with fail
  refine (mixC ax cx x ak ck x w7 (HP.out w7 (HBW.out w7 B47.out)) HXB.out (RX.out w7 B47.out) HXL.out HXB.out RK7.out HXL.out).mono ?_
  rintro e w8 ⟨az, cz, rfl, ho, hb⟩
  rw [HMZ.out] at ho
  have OA8 := TW.hide (own_bel OA7.out hb)
  have OB8 := TW.hide (own_bel OB7.out hb)
  have RZ8 : Hid (Row w8 az (List.replicate 1024 0)) := own_row ho (by rw [List.length_replicate])
  have B48 : Hid (Below w4.heap.size w4 w8) := B47.out.trans (hb.mono B47.out.size)
  clear ho hb B47 OA7 OB7 RK7
  have HS1 := TW.hide (lsame1 (some ⟨ga, 0, none⟩) ab ca cb (mbL x y) w8 (own_row OA8.out HML.out) (own_row OB8.out HML.out) (by rw [HML.out]; decide))
  rw [HML.out] at HS1
  go_wp2_with fail
  refine HS1.out.mono ?_
  rintro e w9 ⟨rfl, q9, rfl⟩
  have OA9 : Hid (World.ownsRow (w8.drewN q9) w4.heap.size 5 1 (.slice (some ⟨ga, 0, none⟩) 1024 ca) 1024 (vs (mbL x y))) := OA8.out
  have OB9 : Hid (World.ownsRow (w8.drewN q9) w5.heap.size 5 1 (.slice ab 1024 cb) 1024 (vs (mbL x y))) := OB8.out
  have RZ9 : Hid (Row (w8.drewN q9) az (List.replicate 1024 0)) := RZ8.out
  have B49 : Hid (Below w4.heap.size w4 (w8.drewN q9)) := below_drewN B48.out _
  have NS9 : Hid ((w8.drewN q9).heap.size = (w8.drewN q9).heap.size) := rfl
  clear OA8 OB8 RZ8 B48 HS1
  generalize w8.drewN q9 = v9 at *
  go_wp2_with (at_make; refine wpList_make_fullG _ (by rfl) _ _ 31 rfl v9.heap.size 5 i0 (.int .u8 0) 1 Tryd.underlying31 hi hz0 hz1 _ _ _ _ 1024 rfl rfl rfl rfl (by rw [hz2]; omega) (by unfold maxLen; omega) (Nat.le_refl _) ?_; (intro w10 hown hgrow); rw [made_vs] at hown; have OE := TW.hide hown; have GE := TW.hide hgrow; clear hown hgrow)
  have hbe : Below v9.heap.size v9 w10 := (Below.refl _ _).grown GE.out (Nat.le_refl _) (by intro k h; cases h)
  have OA10 := TW.hide (own_bel OA9.out hbe)
  have OB10 := TW.hide (own_bel OB9.out hbe)
  have RZ10 := TW.hide (RZ9.out.below hbe)
  have RE10 : Hid (Row w10 (some ⟨v9.heap.size, 0, none⟩) (List.replicate 1024 0)) := own_row OE.out (by rw [List.length_replicate])
  have B410 : Hid (Below w4.heap.size w4 w10) := B49.out.trans (hbe.mono B49.out.size)
  clear hbe OA9 OB9 RZ9 B49 OE GE NS9
  generalize v9.heap.size = ge at *
  have HS2 := TW.hide (lsame1 az (some ⟨ge, 0, none⟩) cz 1024 (List.replicate 1024 0) w10 RZ10.out RE10.out (by rw [List.length_replicate]; decide))
  rw [List.length_replicate] at HS2
  go_wp2_with fail
  refine HS2.out.mono ?_
  rintro e w11 ⟨rfl, q11, rfl⟩
  have OA11 : Hid (World.ownsRow (w10.drewN q11) w4.heap.size 5 1 (.slice (some ⟨ga, 0, none⟩) 1024 ca) 1024 (vs (mbL x y))) := OA10.out
  have OB11 : Hid (World.ownsRow (w10.drewN q11) w5.heap.size 5 1 (.slice ab 1024 cb) 1024 (vs (mbL x y))) := OB10.out
  have B411 : Hid (Below w4.heap.size w4 (w10.drewN q11)) := below_drewN B410.out _
  have G11 : Hid (ga < (w10.drewN q11).heap.size) := (OA10.out.lt ga rfl).2
  clear OA10 OB10 RZ10 RE10 B410 HS2
  generalize w10.drewN q11 = v11 at *
  go_wp2_with fail
  refine (ovrC ax cx x ay cy y ad cd d v11 (HP.out v11 (HBW.out v11 B411.out)) HXB.out (RX.out v11 B411.out) HXL.out HYB.out (RY.out v11 B411.out) HYL.out HDB.out (RD.out v11 B411.out) HDL.out).mono ?_
  rintro e w12 ⟨av, cv, rfl, ho, hb⟩
  have OA12 := TW.hide (own_bel OA11.out hb)
  have OB12 := TW.hide (own_bel OB11.out hb)
  have OV12 := TW.hide ho
  have B412 : Hid (Below w4.heap.size w4 w12) := B411.out.trans (hb.mono B411.out.size)
  have G12 : Hid (ga < w12.heap.size) := Nat.lt_of_lt_of_le G11.out hb.size
  clear ho hb OA11 OB11 B411
  go_wp2_with fail
  refine (xorC (some ⟨ga, 0, none⟩) ca (mbL x y) ad cd d w12 (HP.out w12 (HBW.out w12 B412.out)) HMB.out (own_row OA12.out HML.out) HML.out HDB.out (RD.out w12 B412.out) HDL.out).mono ?_
  rintro e w13 ⟨aw, cw, rfl, ho, hb⟩
  have OA13 := TW.hide (own_bel OA12.out hb)
  have OB13 := TW.hide (own_bel OB12.out hb)
  have OV13 := TW.hide (own_bel OV12.out hb)
  have OW13 := TW.hide ho
  have B413 : Hid (Below w4.heap.size w4 w13) := B412.out.trans (hb.mono B412.out.size)
  clear ho hb OA12 OB12 OV12 B412
  have HLM : Hid ((mbL x y).length = 1024) := HML.out
  go_wp2
  go_loopw [87] (fun i wr => ∃ k : Nat, k ≤ 1024 ∧ i = .int .i64 k ∧ Hid (∃ l : List Int, l.length = 1024 ∧ wr.ownsRow w4.heap.size 5 1 (.slice (some ⟨ga, 0, none⟩) 1024 ca) 1024 (vs l)) ∧ Hid (wr.ownsRow w5.heap.size 5 1 (.slice ab 1024 cb) 1024 (vs (mbL x y))) ∧ Hid (wr.ownsRow v11.heap.size 5 1 (.slice av 1024 cv) 1024 (vs (xbL (mbL x y) d))) ∧ Hid (wr.ownsRow w12.heap.size 5 1 (.slice aw 1024 cw) 1024 (vs (xbL (mbL x y) d))) ∧ Hid (Below w4.heap.size w4 wr)) (fun i _ => 1024 - (intOf i).toNat)
  case atStart => exact ⟨0, Nat.zero_le _, rfl, ⟨_, HLM.out, OA13.out⟩, OB13, OV13, OW13, B413⟩
  case round =>
    clear OA13 OB13 OV13 OW13 B413
    obtain ⟨k, hk, rfl, HL, OB, OV, OW, B4⟩ := hrel
    by_cases hlt : k < 1024
    · have q1 : (k : Int) < 1024 := by omega
      have q0 : (0 : Int) ≤ (k : Int) := by omega
      obtain ⟨l, hll, hol⟩ := HL.out
      have HOL2 := TW.hide hol
      have HLL := TW.hide hll
      have HLT : Hid (k < 1024) := hlt
      have hc : wr.cell? ⟨ga, k, none⟩ = some (.int .u8 (l.getD k 0)) := by
        rw [hol.cellAt k (by omega), vs_get l k (by omega)]
      have hf := hol.frozenAt k
      generalize l.getD k 0 = lk at *
      clear hll hol hlt hk
      have hgr : wr.grownBy (wr.setCell ⟨ga, k, none⟩ (.int .u8 0)) (some ga) := (HOL2.out.stored k (.int .u8 0)).2
      have HL2 : Hid (∃ l : List Int, l.length = 1024 ∧ (wr.setCell ⟨ga, k, none⟩ (.int .u8 0)).ownsRow w4.heap.size 5 1 (.slice (some ⟨ga, 0, none⟩) 1024 ca) 1024 (vs l)) := ⟨l.set k 0, by rw [List.length_set]; exact HLL.out, by
        have := (HOL2.out.stored k (.int .u8 0)).1
        unfold vs at this ⊢
        rw [List.map_set]
        exact this⟩
      have kp : ∀ {B c : Nat} {a : Option Addr} {m : List Int}, ga < B → wr.ownsRow B 5 1 (.slice a 1024 c) 1024 (vs m) → (wr.setCell ⟨ga, k, none⟩ (.int .u8 0)).ownsRow B 5 1 (.slice a 1024 c) 1024 (vs m) := fun hB h => h.kept hgr (by
        cases hq : (Value.slice _ _ _).ownBlock with
        | none => exact .inl rfl
        | some q => exact .inr (by intro h9; have h8 := (h.lt q hq).1; have h7 : q = ga := Option.some.inj h9; omega))
      have OB2 := TW.hide (kp HGA.out.2 OB.out)
      have OV2 := TW.hide (kp G11.out OV.out)
      have OW2 := TW.hide (kp G12.out OW.out)
      have B42 : Hid (Below w4.heap.size w4 (wr.setCell ⟨ga, k, none⟩ (.int .u8 0))) := B4.out.setCell (p := ⟨ga, k, none⟩) HGA.out.1 _
      clear kp hgr HL OB OV OW B4 HOL2 HLL
      go_wp2
      go_roundw
      case rel => exact ⟨k + 1, HLT.out, by go_num, HL2, OB2, OV2, OW2, B42⟩
      case measure => simp [intOf]; have := HLT.out; omega
    · obtain rfl : k = 1024 := by omega
      clear hlt hk HL
      go_wp2_with fail
      refine (mixC ax cx x ay cy y wr (HP.out wr (HBW.out wr B4.out)) HXB.out (RX.out wr B4.out) HXL.out HYB.out (RY.out wr B4.out) HYL.out).mono ?_
      rintro e w15 ⟨ag, cg, rfl, ho, hb⟩
      have OB15 := TW.hide (own_bel OB.out hb)
      have OV15 := TW.hide (own_bel OV.out hb)
      have OW15 := TW.hide (own_bel OW.out hb)
      have RG15 := TW.hide (own_row ho HML.out)
      have B415 : Hid (Below w4.heap.size w4 w15) := B4.out.trans (hb.mono B4.out.size)
      clear ho hb OB OV OW B4
      have HS3 := TW.hide (lsame1 av aw cv cw (xbL (mbL x y) d) w15 (own_row OV15.out HOL.out) (own_row OW15.out HOL.out) (by rw [HOL.out]; decide))
      rw [HOL.out] at HS3
      go_wp2_with fail
      refine HS3.out.mono ?_
      rintro e w16 ⟨rfl, q16, rfl⟩
      have RB16 : Hid (Row (w15.drewN q16) ab (mbL x y)) := own_row OB15.out HML.out
      have RG16 : Hid (Row (w15.drewN q16) ag (mbL x y)) := RG15.out
      have B416 : Hid (Below w4.heap.size w4 (w15.drewN q16)) := below_drewN B415.out _
      clear OB15 OV15 OW15 RG15 B415 HS3
      generalize w15.drewN q16 = v16 at *
      have HS4 := TW.hide (lsame1 ag ab cg cb (mbL x y) v16 RG16.out RB16.out (by rw [HML.out]; decide))
      rw [HML.out] at HS4
      go_wp2_with fail
      refine HS4.out.mono ?_
      rintro e w17 ⟨rfl, q17, rfl⟩
      have B417 : Hid (Below w4.heap.size w4 (v16.drewN q17)) := below_drewN B416.out _
      clear RB16 RG16 B416 HS4
      generalize v16.drewN q17 = v17 at *
      go_wp2_with fail
      refine (HBs.out v17 (HBW.out v17 B417.out)).mono ?_
      rintro e w18 ⟨ap18, cp18, rfl, ho, hb⟩
      have B418 : Hid (Below w4.heap.size w4 w18) := B417.out.trans (hb.mono B417.out.size)
      have RP18 := TW.hide (own_row ho HXL.out)
      clear ho hb B417
      have HS18 := TW.hide (lsame1 ax ap18 cx cp18 x w18 (RX.out w18 B418.out) RP18.out (by rw [HXL.out]; decide))
      rw [HXL.out] at HS18
      go_wp2_with fail
      refine HS18.out.mono ?_
      rintro e w18q ⟨rfl, q18, rfl⟩
      have B419 : Hid (Below w4.heap.size w4 (w18.drewN q18)) := below_drewN B418.out _
      clear RP18 B418 HS18
      generalize w18.drewN q18 = v18 at *
      go_wp2_with fail
      refine (HBt.out v18 (HBW.out v18 B419.out)).mono ?_
      rintro e w20 ⟨ap20, cp20, rfl, ho, hb⟩
      have B420 : Hid (Below w4.heap.size w4 w20) := B419.out.trans (hb.mono B419.out.size)
      have RP20 := TW.hide (own_row ho HYL.out)
      clear ho hb B419
      have HS20 := TW.hide (lsame1 ay ap20 cy cp20 y w20 (RY.out w20 B420.out) RP20.out (by rw [HYL.out]; decide))
      rw [HYL.out] at HS20
      go_wp2_with fail
      refine HS20.out.mono ?_
      rintro e w20q ⟨rfl, q20, rfl⟩
      have B421 : Hid (Below w4.heap.size w4 (w20.drewN q20)) := below_drewN B420.out _
      clear RP20 B420 HS20
      generalize w20.drewN q20 = v20 at *
      go_wp2_with fail
      refine (HBu.out v20 (HBW.out v20 B421.out)).mono ?_
      rintro e w22 ⟨ap22, cp22, rfl, ho, hb⟩
      have B422 : Hid (Below w4.heap.size w4 w22) := B421.out.trans (hb.mono B421.out.size)
      have RP22 := TW.hide (own_row ho HDL.out)
      clear ho hb B421
      have HS22 := TW.hide (lsame1 ad ap22 cd cp22 d w22 (RD.out w22 B422.out) RP22.out (by rw [HDL.out]; decide))
      rw [HDL.out] at HS22
      go_wp2_with fail
      refine HS22.out.mono ?_
      rintro e w22q ⟨rfl, q22, rfl⟩
      have B423 : Hid (Below w4.heap.size w4 (w22.drewN q22)) := below_drewN B422.out _
      clear RP22 B422 HS22
      generalize w22.drewN q22 = v22 at *
      have HR9 : Hid (Below w.heap.size w v22) := HBW.out v22 B423.out
      go_wp2
      go_ret
      exact ⟨rfl, HR9.out⟩
end LW
end Go.Proofs.YtkgemkfajkcgcaaDoor
