/- DERIVED. What functions of plants keep. -/
import Derived.Test.YtkophklnleodcaaDcon
namespace Go.Proofs.Ytkophklnleodcaa
open Go.Dx
set_option linter.unusedVariables false
/-- A plant, a state. -/
structure PL where
  tp : Int
  bk : Int
  si : Int
  st : Int
  ps : Int
  rt : Int
  sp : Int
  pa : Int
  fd : Int
  pp : Int
  od : Int
  ag : Int
structure ST where
  lv : Int
  po : Int
  p0 : Int
  p1 : Int
  od : Int
  ag : Int
def gi (l : List DV) (k : Nat) : Int := (l.getD k (.n 0)).int
def pl (l : List DV) : PL := ⟨gi l 0, gi l 1, gi l 2, gi l 3, gi l 4, gi l 5, gi l 6, gi l 7, gi l 8, gi l 9, gi l 10, gi l 11⟩
def stt (l : List DV) (k : Nat) : ST := ⟨gi l k, gi l (k + 1), gi l (k + 2), gi l (k + 3), gi l (k + 4), gi l (k + 5)⟩
def plantOk (p : PL) : Prop := ((((((((((((1 ≤ p.tp ∧ p.tp ≤ 63) ∧ 0 ≤ p.bk ∧ p.bk ≤ p.tp - 1) ∧ 0 ≤ p.si ∧ p.si ≤ p.bk) ∧ 0 ≤ p.st ∧ p.st ≤ p.tp) ∧ 1 ≤ p.ps ∧ p.ps ≤ 15) ∧ 1 ≤ p.rt ∧ p.rt ≤ 15) ∧ 1 ≤ p.sp ∧ p.sp ≤ 15) ∧ 0 ≤ p.pa ∧ p.pa ≤ 1048576) ∧ 0 ≤ p.fd ∧ p.fd ≤ 15) ∧ 0 ≤ p.pp ∧ p.pp ≤ 2) ∧ 0 ≤ p.od ∧ p.od ≤ 7) ∧ 0 ≤ p.ag ∧ p.ag ≤ 7)
instance decP (p : PL) : Decidable (plantOk p) := by unfold plantOk; infer_instance
def cnt0 (p : PL) : Int := (p.tp + 1) * (p.ps + 1) * (p.od + 1) * (p.ag + 1)
def cnt (p : PL) : Int := if p.pp ≤ 0 then cnt0 p else if p.pp ≤ 1 then cnt0 p * (p.fd + 1) else cnt0 p * (p.fd + 1) * (p.fd + 1)
def pcF (p : PL) : Int := if plantOk p then (if 4096 < cnt p then 2 else 0) else 320
def pipeOk (p : PL) (i n : Int) : Prop := 0 ≤ n ∧ n ≤ if i < p.pp then p.fd else 0
def blg (p : PL) (s : ST) : Prop := (pipeOk p 0 s.p0 ∧ pipeOk p 1 s.p1) ∧ (((0 ≤ s.lv ∧ s.lv ≤ p.tp) ∧ 0 ≤ s.po ∧ s.po ≤ p.ps) ∧ 0 ≤ s.od ∧ s.od ≤ p.od) ∧ 0 ≤ s.ag ∧ s.ag ≤ p.ag
def chosen (p : PL) (f m : Int) : Prop := (0 ≤ f ∧ f ≤ p.fd) ∧ -1 ≤ m ∧ m ≤ p.od
instance decPO (p : PL) (i n : Int) : Decidable (pipeOk p i n) := by unfold pipeOk; infer_instance
instance decB (p : PL) (s : ST) : Decidable (blg p s) := by unfold blg; infer_instance
instance decCh (p : PL) (f m : Int) : Decidable (chosen p f m) := by unfold chosen; infer_instance
/-- An hour. -/
def odN (s : ST) (m : Int) : Int := if 0 ≤ m then m else s.od
def agN (p : PL) (s : ST) (m : Int) : Int := if 0 ≤ m then 0 else min (s.ag + 1) p.ag
def arr (p : PL) (s : ST) (f : Int) : Int := if p.pp = 0 then f else s.p0
def q0N (p : PL) (s : ST) (f : Int) : Int := if p.pp = 0 then s.p0 else if p.pp = 1 then f else s.p1
def q1N (p : PL) (s : ST) (f : Int) : Int := if p.pp = 0 then s.p1 else if p.pp = 1 then 0 else f
def varsN (p : PL) (s : ST) (f m : Int) : List Int := [s.lv, s.po, odN s m, agN p s m, arr p s f]
def poN (p : PL) (d : DV) (s : ST) (f m : Int) : Int := match firstL d (varsN p s f m) d.len.toNat 0 with
  | some k => s.po + max (0 - p.sp) (min p.sp (min (d.at k 1) p.ps - s.po))
  | none => s.po
def outN (p : PL) (d : DV) (s : ST) (f m : Int) : Int := min (p.rt * poN p d s f m) (s.lv + arr p s f)
def lvN (p : PL) (d : DV) (s : ST) (f m : Int) : Int := min p.tp (s.lv + arr p s f - outN p d s f m)
def bad (e : Int) : List DV := [.n 0, .n 0, .n 0, .n 0, .n 0, .n 0, .n 0, .n e]
def NextF (p : PL) (d : DV) (s : ST) (f m : Int) : List DV := if pcF p ≠ 0 then bad (pcF p) else if ¬ codeOk d then bad 310 else if ¬ blg p s then bad 320 else if ¬ chosen p f m then bad 1 else
  [.n (lvN p d s f m), .n (poN p d s f m), .n (q0N p s f), .n (q1N p s f), .n (odN s m), .n (agN p s m), .n (outN p d s f m), .n 0]
def SafeF (p : PL) (s : ST) : List DV := if pcF p ≠ 0 then [.n 0, .n (pcF p)] else if ¬ blg p s then [.n 0, .n 320] else if (p.si ≤ s.lv ∧ s.lv ≤ p.bk) ∧ p.rt * s.po ≤ p.pa then [.n 1, .n 0] else [.n 0, .n 0]
def BeginF (p : PL) : List DV := if pcF p ≠ 0 then [.n 0, .n 0, .n 0, .n 0, .n 0, .n 0, .n (pcF p)] else [.n p.st, .n 0, .n 0, .n 0, .n 0, .n p.ag, .n 0]
def CountF (p : PL) : List DV := if pcF p ≠ 0 then [.n 0, .n (pcF p)] else [.n (cnt p), .n 0]
abbrev u8s : Sh := .int .u8 0 255
abbrev sixR : List RC := [iR, iR, iR, iR, iR, iR]
def b2 (f : FuncId) (a : List ASh) (r : List RSh) (q : List DV → List DV) : Con := { f := f, args := a, res := r, pre := fun _ => True, post := fun xs y => y = q xs }
def cPC (f : FuncId) : Con := b2 f [.agg plantS] [.one iR] fun xs => [.n (pcF (pl xs))]
def cCount (f : FuncId) : Con := b2 f [.agg plantS] [.one iR, .one iR] fun xs => CountF (pl xs)
def cBegin (f : FuncId) : Con := b2 f [.agg plantS] [.agg sixR, .one iR] fun xs => BeginF (pl xs)
def cSafe (f : FuncId) : Con := b2 f [.agg plantS, .agg stateS] [.one bR, .one iR] fun xs => SafeF (pl xs) (stt xs 12)
def cBlg (f : FuncId) : Con := b2 f [.agg plantS, .agg stateS] [.one bR] fun xs => [.n (if blg (pl xs) (stt xs 12) then 1 else 0)]
def cChosen : Con := b2 23 [.agg plantS, .agg shockS] [.one bR] fun xs => [.n (if chosen (pl xs) (gi xs 12) (gi xs 13) then 1 else 0)]
abbrev nextArgs (a b : Int) : List ASh := [.agg [i64s, i64s, i64s, i64s, i64s, i64s, i64s, i64s, i64s, .int .i64 a b, i64s, i64s], .agg [lines], .agg stateS, .agg shockS]
def cNextN (f : FuncId) (a b : Int) : Con := b2 f (nextArgs a b) [.agg sixR, .one iR, .one iR] fun xs => NextF (pl xs) (xs.getD 12 (.n 0)) (stt xs 13) (gi xs 19) (gi xs 20)
def cNext (f : FuncId) : Con := cNextN f (-9223372036854775808) 9223372036854775807
end Go.Proofs.Ytkophklnleodcaa
