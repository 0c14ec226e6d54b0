/-
  Parameters by one letter: what their cells are, and what Check, Normal and number tell of them.
-/
import Derived.Test.YtplpplbmajiclabGreatRSame
import Derived.Test.YtplpplbmajiclabGreatNumbers
import Derived.Test.YtplpplbmajiclabGreatCopied
import Derived.Test.YtplpplbmajiclabGreatRCheck
import Derived.Test.YtplpplbmajiclabGreatOrder
import Derived.Test.YtplpplbmajiclabGreatBEqual
import Derived.Laws.Rows
import Derived.Laws.Tables
import Derived.Deep.MidRow
import Derived.Great.Walk
namespace Go.Proofs.YtplpplbmajiclabGreat
open Go.RowKit
set_option linter.unusedVariables false
set_option linter.unusedSimpArgs false
namespace LW
open Words
/-- The nine numbers of parameters. -/
structure Pm where
  d : Int
  k : Int
  f : Int
  dp : Int
  lf : Int
  off : Int
  xof : Int
  nd : Int
  inn : Int
/-- Whether they are the same is told by looking. -/
def Pm.dec (p q : Pm) : Decidable (p = q) :=
  decidable_of_iff (p.d = q.d ∧ p.k = q.k ∧ p.f = q.f ∧ p.dp = q.dp ∧ p.lf = q.lf ∧ p.off = q.off ∧ p.xof = q.xof ∧ p.nd = q.nd ∧ p.inn = q.inn)
    ⟨fun h => by
      obtain ⟨h1, h2, h3, h4, h5, h6, h7, h8, h9⟩ := h
      cases p
      cases q
      simp_all, fun h => by subst h; simp⟩
def Pm.decA (p q : Pm) (a b c d : List Int) : Decidable (p = q ∧ a = b ∧ c = d) := @instDecidableAnd _ _ (Pm.dec p q) inferInstance
/-- All nine are noughts. -/
def Pm.zero : Pm := ⟨0, 0, 0, 0, 0, 0, 0, 0, 0⟩
/-- Their cells. -/
def pcP (p : Pm) (S T : Value) : Array Value := pc p.d p.k p.f p.dp p.lf p.off p.xof p.nd p.inn S T
theorem info31 (p : Pm) (S T : Value) : (Tryz.prog.info? 56).map (·.size) = some (pcP p S T).size := by
  show (Tryz.prog.info? 56).map (·.size) = some 11
  kernel_rfl
theorem pc_one (p : Pm) (a b : Option Addr) (n m c e : Nat) : (pcP p (.slice a n c) (.slice b m e)).all (·.oneCell') = true := by simp [pcP, pc, Value.oneCell']
theorem pc_size (p q : Pm) (S T S' T' : Value) : (pcP p S T).size = (pcP q S' T').size := rfl
theorem heap_new (w : World) (o : Obj) : (w.alloc o).heap[w.heap.size]? = some o := heap_alloc_new w o
theorem exec_load_row {P : Program} {o : Oper} {a : Act} {w : World} (ty : TypeId) (x : Operand) (ho : o.op = .load ty x) (g : Nat) (hx : a.eval x = .pointer (some ⟨g, 0, none⟩)) (t : TypeId) (cs : Array Value) (fr : Nat × Nat) (d : TypeDesc)
    (hg : w.heap[g]? = some (.cells cs t fr)) (hu : P.underlying ty = some d) (hd : (match d with | .struct _ | .array _ _ => true | _ => false) = true) (hi : (P.info? ty).map (·.size) = some cs.size) :
    (execOp a.eval o).run P w = .ok (.value (.agg cs)) w := by
  unfold execOp
  simp only [ho, hx, Instr.loadAt, Instr.sureAddr, Sem.run_bind, Sem.run_pure, Result.andThen_ok, run_loadVar_row w g t ty cs fr d hg hu hd hi]
/-- What Check tells. -/
def Pm.ck (kd : Int) (p : Pm) (sl tl : Nat) : Int := LW.ck kd p.d p.k p.f p.dp p.off p.xof p.nd p.inn sl tl
/-- What the numbers may be as they come. -/
structure Pm.Ok (p : Pm) : Prop where
  o0 : 0 ≤ p.off
  o1 : p.off < 18446744073709551616
  x0 : 0 ≤ p.xof
  x1 : p.xof < 4294967296
  l0 : 0 ≤ p.lf
  l1 : p.lf < 4294967296
theorem checkP (kd : Int) (p : Pm) (hp : p.Ok) (sa ta : Option Addr) (sl sc tl tc : Nat) (w : World) :
    Calls Tryz.prog 32 #[.int .i64 kd, .agg (pcP p (.slice sa sl sc) (.slice ta tl tc))] w fun e w' => e = .returned (.int .i64 (p.ck kd sl tl)) ∧ Below w.heap.size w w' :=
  check kd p.d p.k p.f p.dp p.lf p.off p.xof p.nd p.inn sa ta sl sc tl tc w hp.o0 hp.o1 hp.x0 hp.x1
/-- What Check asks of the numbers. -/
structure Pm.May (p : Pm) : Prop where
  d0 : 1 ≤ p.d
  d1 : p.d ≤ 64
  k0 : 0 ≤ p.k
  k1 : p.k ≤ 64
  f0 : 0 ≤ p.f
  f1 : p.f ≤ 255
  e0 : 0 ≤ p.dp
  e1 : p.dp ≤ 255
  n0 : 0 ≤ p.nd
  n1 : p.nd ≤ 255
  i0 : 0 ≤ p.inn
  i1 : p.inn ≤ 64
theorem ckG_may {m m4 : Int} {x : Bool} {s6 s7 : Nat} {d k f dp off xof nd inn : Int} {sl tl : Nat} (h : ckG m m4 x s6 s7 d k f dp off xof nd inn sl tl = 0) :
    1 ≤ d ∧ d ≤ m ∧ 0 ≤ k ∧ k ≤ m ∧ 0 ≤ f ∧ f ≤ 255 ∧ 0 ≤ dp ∧ dp ≤ 255 ∧ 0 ≤ nd ∧ nd ≤ 255 ∧ 0 ≤ inn ∧ inn ≤ m ∧ ¬ (dp = 0 ∧ x = false) ∧ off < 2 ^ (8 * s6) ∧ xof < 2 ^ (8 * s7) ∧ sl ≤ m4 ∧ tl ≤ m4 := by
  unfold ckG at h
  repeat' split at h
  all_goals first | (exfalso; omega) | skip
  rename_i h1 h2 h3 h4 h5 h6 h7 h8 h9 h10 h11
  refine ⟨by omega, by omega, by omega, by omega, by omega, by omega, by omega, by omega, by omega, by omega, by omega, by omega, h5, ?_, ?_, by omega, by omega⟩
  · exact Classical.not_not.1 h6
  · exact Classical.not_not.1 h7
theorem ck_kind {kd d k f dp off xof nd inn : Int} {sl tl : Nat} (h : ck kd d k f dp off xof nd inn sl tl = 0) : kd = 1 ∨ kd = 2 := by
  unfold ck at h
  split at h
  · exact .inl ‹_›
  · split at h
    · exact .inr ‹_›
    · exact absurd h (by decide)
theorem may_of_ck {kd : Int} {p : Pm} {sl tl : Nat} (h : p.ck kd sl tl = 0) : p.May := by
  unfold Pm.ck at h
  rcases ck_kind h with rfl | rfl
  · simp only [LW.ck, if_true] at h
    have := ckG_may h
    exact ⟨by omega, by omega, by omega, by omega, by omega, by omega, by omega, by omega, by omega, by omega, by omega, by omega⟩
  · simp only [LW.ck, if_true, show ((2 : Int) = 1) = False by simp, if_false] at h
    have := ckG_may h
    exact ⟨by omega, by omega, by omega, by omega, by omega, by omega, by omega, by omega, by omega, by omega, by omega, by omega⟩
/-- The number of a field. -/
def Pm.nv (p : Pm) (fd : Int) : Int := LW.nv p.d p.k p.f p.dp p.lf p.off p.xof p.nd p.inn fd
theorem numberP (p : Pm) (hp : p.Ok) (hm : p.May) (sa ta : Option Addr) (sl tl sc tc : Nat) (fd : Int) (w : World) (h1 : 1 ≤ fd) (h9 : fd ≤ 9) :
    Calls Tryz.prog 44 #[.agg (pcP p (.slice sa sl sc) (.slice ta tl tc)), .int .i64 fd] w fun e w' => e = .returned (.int .u64 (p.nv fd)) ∧ Below w.heap.size w w' :=
  number p.d p.k p.f p.dp p.lf p.off p.xof p.nd p.inn sa ta sl tl sc tc fd w h1 h9 ⟨by have := hm.d0; omega, by have := hm.d1; omega⟩ ⟨hm.k0, by have := hm.k1; omega⟩ ⟨hm.f0, by have := hm.f1; omega⟩ ⟨hm.e0, by have := hm.e1; omega⟩ ⟨hp.l0, by have := hp.l1; omega⟩ ⟨hp.o0, hp.o1⟩ ⟨hp.x0, by have := hp.x1; omega⟩ ⟨hm.n0, by have := hm.n1; omega⟩ ⟨hm.i0, by have := hm.i1; omega⟩
theorem nv_all {p q : Pm} (h : ∀ j : Int, 1 ≤ j → j ≤ 9 → p.nv j = q.nv j) : p = q := by
  cases p; cases q
  have h1 := h 1 (by omega) (by omega)
  have h2 := h 2 (by omega) (by omega)
  have h3 := h 3 (by omega) (by omega)
  have h4 := h 4 (by omega) (by omega)
  have h5 := h 5 (by omega) (by omega)
  have h6 := h 6 (by omega) (by omega)
  have h7 := h 7 (by omega) (by omega)
  have h8 := h 8 (by omega) (by omega)
  have h9 := h 9 (by omega) (by omega)
  simp [Pm.nv, LW.nv] at h1 h2 h3 h4 h5 h6 h7 h8 h9
  simp [*]
/-- What an own row is, in one word. -/
theorem own_open {w : World} {B : Nat} {v : Value} {zs : List Int} (h : w.ownsRow B 5 1 v zs.length (vs zs)) :
    ∃ a cap, v = .slice a zs.length cap ∧ Row w a zs ∧ zs.length ≤ maxLen ∧ zs.length ≤ cap ∧ (a = none → cap = 0) ∧ (∀ ad, a = some ad → ∃ b off, ad = ⟨b, off, none⟩) := by
  obtain ⟨a0, cap0, e0, hr, hl⟩ := row_of_own h
  rcases h.2 with ⟨rfl, h0⟩ | ⟨g, cap, cur, rfl, hg, hh, hn, hm, hc, ht⟩
  · refine ⟨none, 0, by rw [h0], ?_, hl, by omega, (fun _ => rfl), (fun ad h => by cases h)⟩
    exact .inl (List.length_eq_zero_iff.1 h0)
  · injection e0 with e1 e2 e3
    subst e1
    exact ⟨_, cap, rfl, hr, hl, by omega, (fun h => by cases h), (fun ad h => ⟨g, 0, by cases h; rfl⟩)⟩
end LW
end Go.Proofs.YtplpplbmajiclabGreat
