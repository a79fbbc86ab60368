/- DERIVED. The program's simplest number: its contract. -/
import Derived.Test.YtkcomadagclikaaFindS
import Derived.Test.YtkcomadagclikaaBcon
namespace Go.Sx
open Go.RowKit
set_option linter.unusedVariables false
/-- The contract of a function whose call is known. -/
theorem con_of_calls {P : Program} {σ : List (Option Addr × Nat)} {τ : List Value} {c : Con} {L : Nat} (hl : argSize c.args = L)
    (h : ∀ (xs : List Int) (w : World), c.pre xs → xs.length = L → Calls P c.f ((argsOf c.args 0).map (PV.den (env xs σ τ))).toArray w fun e w' => ∃ v, e = .returned v ∧ (∃ ys, inB ys c.bnd ∧ c.post xs ys ∧ ∀ m : Env, ∀ k, (∀ i, i < ys.length → m.r.getD (k + i) 0 = ys.getD i 0) → v = (resVal c.res k).den m ∧ ys.length = resSize c.res) ∧ Below w.heap.size w w')
    (N : Nat) (w0 : World) : ConOk P N w0 σ τ c := by
  intro _ n args xs w hs ht ha hp hB
  have hlen := (conArgs_len _ _ _ ha).trans hl
  have e : args.map (PV.den n) = (argsOf c.args 0).map (PV.den (env (xs.map (E.den n.r)) σ τ)) :=
    conArgs_den (m := env (xs.map (E.den n.r)) σ τ) hs.symm ht.symm c.args args xs 0 ha (fun i hi => by simp [env, List.getD_eq_getElem?_getD, hi])
  rw [e]
  refine (h _ w hp (by simpa using hlen)).mono ?_
  · rintro e w' ⟨v, he, ⟨ys, h1, h2, h3⟩, hB'⟩
    obtain ⟨h4, h5⟩ := h3 (n.moreZ ys) n.r.length (fun i hi => by
      simp only [Env.moreZ, Env.more, List.getD_eq_getElem?_getD]
      rw [List.getElem?_append_right (by omega)]
      congr 2; omega)
    exact ⟨ys, h5, in_bnd h1, h2, by rw [he, h4], hB'⟩
end Go.Sx
namespace Go.Proofs.Ytkcomadagclikaa
set_option linter.unusedVariables false
set_option linter.unusedSimpArgs false
open Go.Sx
theorem okSmp {σ τ} (K : Nat) : ∀ N w0, ConOk Try.prog N w0 σ τ (cSmp K) := by
  refine con_of_calls (L := 4) rfl fun xs w hp hl => ?_
  match xs, hp with
  | [a, b, c, d], hp =>
  have sp := smp_b hp
  obtain ⟨hs, hk, b1, b2, b3, b4⟩ := hp
  show Calls Try.prog 41 #[.int .i64 a, .int .i64 b, .int .i64 c, .int .i64 d] w _
  refine (simplest_any K a b c d w hs hk b1 b2 b3 b4).mono fun e w' ⟨he, hB⟩ => ⟨_, he, ⟨[(smp K a b c d).1, (smp K a b c d).2], ⟨sp.1, sp.2.1, sp.2.2.1, sp.2.2.2, trivial⟩, ⟨rfl, rfl⟩, fun m k hm => ⟨?_, rfl⟩⟩, hB⟩
  have h0 := hm 0 (by simp)
  have h1 := hm 1 (by simp)
  show _ = Value.tuple #[.int .i64 (m.r.getD (k + 0) 0), .int .i64 (m.r.getD (k + 1) 0)]
  rw [h0, h1]
  rfl
end Go.Proofs.Ytkcomadagclikaa
