/-
 Blocks and what follows them, with every end named by a letter.
-/
import Derived.Test.YtfbnakmmmphedaaSyAo
set_option linter.unusedVariables false
set_option linter.unusedSimpArgs false
namespace Go.Proofs.Ytfbnakmmmphedaa
open Go.RowKit
namespace LW
structure Ends (Q Q' : Exit → Act → World → Prop) (i : Option Nat) : Prop where
 x : ∀ j,i ≠ some j → ∀ a w,Q (.exit j) a w → Q' (.exit j) a w
 r : ∀ a w,Q .ret a w → Q' .ret a w
 p : ∀ c a w,Q (.panic c) a w → Q' (.panic c) a w
theorem xZ {Q Q' : Exit → Act → World → Prop} {i : Option Nat} (h : Hid (Ends Q Q' i)) (j : Nat) {a : Act} {w : World} (hq : Q (.exit j) a w) (hj : i ≠ some j:=by simp) : Q' (.exit j) a w:=h.out.x j hj a w hq
theorem xR {Q Q' : Exit → Act → World → Prop} {i : Option Nat} (h : Hid (Ends Q Q' i)) {a : Act} {w : World} (hq : Q .ret a w) : Q' .ret a w:=h.out.r a w hq
theorem xP {Q Q' : Exit → Act → World → Prop} {i : Option Nat} (h : Hid (Ends Q Q' i)) {c : List PanicEntry} {a : Act} {w : World} (hq : Q (.panic c) a w) : Q' (.panic c) a w:=h.out.p c a w hq
theorem wp_seq_q {P : Program} {Q : Exit → Act → World → Prop} {a : Act} {w : World} {x y : Code} (h : ∀ (K : Act → World → Prop) (Q' : Exit → Act → World → Prop),(∀ a w,y.wp P Q a w → K a w) → (∀ a w,K a w → Q' .normal a w) → Ends Q Q' none → x.wp P Q' a w) : (Code.seq x y).wp P Q a w :=
 wp_seq_k fun K hK => h K (Exit.then K Q) hK (fun _ _ hk => hk) ⟨fun _ _ _ _ hq => hq,fun _ _ hq => hq,fun _ _ _ hq => hq⟩
theorem wp_block_q {P : Program} {Q : Exit → Act → World → Prop} {a : Act} {w : World} {i : Nat} {c : Code} (h : ∀ (Q' : Exit → Act → World → Prop),(∀ a w,Q .normal a w → Q' .normal a w) → (∀ a w,Q .normal a w → Q' (.exit i) a w) → Ends Q Q' (some i) → c.wp P Q' a w) : (Code.block i c).wp P Q a w :=
 wp_block (h (Exit.inBlock i Q) (fun _ _ hq => hq) (fun a w hq => by unfold Exit.inBlock;simp only [if_true];exact hq) ⟨fun j hj a w hq => by unfold Exit.inBlock;simp only [if_neg (fun e => hj (congrArg some e.symm) : ¬ j = i)];exact hq,fun _ _ hq => hq,fun _ _ _ hq => hq⟩)
theorem wp_seq_block_q {P : Program} {Q : Exit → Act → World → Prop} {a : Act} {w : World} {i : Nat} {c y : Code} (h : ∀ (K : Act → World → Prop) (Q' : Exit → Act → World → Prop),(∀ a w,y.wp P Q a w → K a w) → (∀ a w,K a w → Q' .normal a w) → (∀ a w,K a w → Q' (.exit i) a w) → Ends Q Q' (some i) → c.wp P Q' a w) : (Code.seq (Code.block i c) y).wp P Q a w :=
 wp_seq_q fun K Q1 hK hN hO => wp_block_q fun Q2 hN2 hE2 hO2 => h K Q2 hK (fun a w hk => hN2 a w (hN a w hk)) (fun a w hk => hE2 a w (hN a w hk)) ⟨fun j hj a w hq => hO2.x j hj a w (hO.x j (by simp) a w hq),fun a w hq => hO2.r a w (hO.r a w hq),fun c a w hq => hO2.p c a w (hO.p c a w hq)⟩
end LW
end Go.Proofs.Ytfbnakmmmphedaa
