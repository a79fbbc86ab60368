/- DERIVED. A long body, walked in parts. -/
import Derived.Test.YtdffnmhpkapbkaaDoorDconb
namespace Go.Proofs.YtdffnmhpkapbkaaDoor
open Go.Dx
set_option linter.unusedVariables false
/-- The first steps of a body; what comes after them. -/
def hdC : Nat → Code → Code
  | 0, _ => .skip
  | n + 1, .seq a b => .seq a (hdC n b)
  | _ + 1, c => c
def tlC : Nat → Code → Code
  | 0, c => c
  | n + 1, .seq _ b => tlC n b
  | _ + 1, _ => .skip
def goOn (ex : Ex) (c : Code) (p : X × St) : T (X × St) := match p.1 with
  | .nrm => ex none c p.2
  | _ => .ret p
theorem bind_assoc' {α β γ : Type} (t : T α) (f : α → T β) (g : β → T γ) : (t.bind f).bind g = t.bind fun a => (f a).bind g := by
  induction t <;> simp_all [T.bind]
theorem bind_ret' {α : Type} (t : T α) : t.bind T.ret = t := by
  induction t <;> simp_all [T.bind]
theorem exec_skip (C : List Con) (F : Nat) (s : St) : exec tb C (F + 1) none .skip s = .ret (.nrm, s) := rfl
theorem exec_seq (C : List Con) (F : Nat) (a b : Code) (s : St) : exec tb C (F + 1) none (.seq a b) s = (exec tb C F none a s).bind (goOn (exec tb C F) b) := rfl
theorem exec_cut (C : List Con) (F : Nat) : ∀ (n : Nat) (c : Code) (s : St), exec tb C (F + 1 + n) none c s = (exec tb C (F + 1 + n) none (hdC n c) s).bind (goOn (exec tb C (F + 1)) (tlC n c))
  | 0, c, s => by
    simp only [hdC, tlC, Nat.add_zero, exec_skip, T.bind, goOn]
  | n + 1, c, s => by
    cases c with
    | seq a b =>
      simp only [hdC, tlC]
      rw [show F + 1 + (n + 1) = (F + 1 + n) + 1 by omega, exec_seq, exec_seq, bind_assoc']
      congr 1
      funext p
      obtain ⟨x, s1⟩ := p
      cases x with
      | nrm => simp only [goOn]; exact exec_cut C F n b s1
      | _ => simp only [goOn, T.bind]
    | _ =>
      simp only [hdC, tlC]
      refine (bind_ret' _).symm.trans ?_
      congr 1
      funext p
      obtain ⟨x, s1⟩ := p
      cases x <;> simp only [goOn, exec_skip]
end Go.Proofs.YtdffnmhpkapbkaaDoor
