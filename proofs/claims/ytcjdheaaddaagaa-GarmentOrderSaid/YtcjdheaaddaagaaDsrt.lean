/- DERIVED. The program's two sorts. -/
import Derived.Ground.SlsfProg
import Derived.Test.YtcjdheaaddaagaaDcmp
import Derived.Test.YtcjdheaaddaagaaDsrx
namespace Go.Proofs.Ytcjdheaaddaagaa
open Go.Dx
open Go.Shelf Go.RowKit Go.Lib
set_option linter.unusedVariables false
set_option linter.unusedSimpArgs false
set_option maxRecDepth 100000
def sortC_ren : Go.Shelf.Ren := ⟨fun | 6 => 47 | 15 => 55 | 14 => 54 | 28 => 65 | 29 => 66 | 20 => 57 | 21 => 58 | 22 => 59 | 23 => 60 | 24 => 61 | 25 => 62 | 26 => 63 | 27 => 64 | 46 => 67 | 47 => 68 | 48 => 69 | 49 => 70 | 50 => 71 | 57 => 72 | n => n, fun | 22 => 53 | 24 => 59 | 25 => 68 | 3 => 3 | 39 => 49 | 0 => 0 | 53 => 48 | 55 => 46 | 4 => 4 | 46 => 84 | 45 => 83 | 50 => 43 | 5 => 5 | 9 => 9 | 66 => 91 | 70 => 95 | 76 => 97 | 77 => 98 | n => n, fun | n => n⟩
theorem sortC : Go.Proofs.SlLaysF0.n6 Try.prog sortC_ren := {
  mixed := by kernel_rfl,
  f6 := ⟨Try.f47.name, by decide, Try.func47.trans (congrArg some (by kernel_rfl))⟩,
  f14 := ⟨Try.f54.name, by decide, Try.func54.trans (congrArg some (by kernel_rfl))⟩,
  f15 := Try.func55.trans (congrArg some (by kernel_rfl)),
  f20 := ⟨Try.f57.name, by decide, Try.func57.trans (congrArg some (by kernel_rfl))⟩,
  f21 := ⟨Try.f58.name, by decide, Try.func58.trans (congrArg some (by kernel_rfl))⟩,
  f22 := ⟨Try.f59.name, by decide, Try.func59.trans (congrArg some (by kernel_rfl))⟩,
  f23 := ⟨Try.f60.name, by decide, Try.func60.trans (congrArg some (by kernel_rfl))⟩,
  f24 := ⟨Try.f61.name, by decide, Try.func61.trans (congrArg some (by kernel_rfl))⟩,
  f25 := ⟨Try.f62.name, by decide, Try.func62.trans (congrArg some (by kernel_rfl))⟩,
  f26 := ⟨Try.f63.name, by decide, Try.func63.trans (congrArg some (by kernel_rfl))⟩,
  f27 := ⟨Try.f64.name, by decide, Try.func64.trans (congrArg some (by kernel_rfl))⟩,
  f28 := Try.func65.trans (congrArg some (by kernel_rfl)),
  f29 := Try.func66.trans (congrArg some (by kernel_rfl)),
  f46 := ⟨Try.f67.name, by decide, Try.func67.trans (congrArg some (by kernel_rfl))⟩,
  f47 := Try.func68.trans (congrArg some (by kernel_rfl)),
  f48 := Try.func69.trans (congrArg some (by kernel_rfl)),
  f49 := ⟨Try.f70.name, by decide, Try.func70.trans (congrArg some (by kernel_rfl))⟩,
  f50 := ⟨Try.f71.name, by decide, Try.func71.trans (congrArg some (by kernel_rfl))⟩,
  f57 := ⟨Try.f72.name, by decide, Try.func72.trans (congrArg some (by kernel_rfl))⟩,
  t0 := Try.underlying0,
  a0 := Try.isAgg0,
  z0 := Try.sizeOf0,
  v0 := Try.zeroValue0,
  t3 := Try.underlying3,
  a3 := Try.isAgg3,
  z3 := Try.sizeOf3,
  v3 := Try.zeroValue3,
  t4 := Try.underlying4,
  a4 := Try.isAgg4,
  z4 := Try.sizeOf4,
  v4 := Try.zeroValue4,
  t5 := Try.underlying5,
  a5 := Try.isAgg5,
  z5 := Try.sizeOf5,
  v5 := Try.zeroValue5,
  t9 := Try.underlying9,
  a9 := Try.isAgg9,
  z9 := Try.sizeOf9,
  v9 := Try.zeroValue9,
  t22 := Try.underlying53,
  a22 := Try.isAgg53,
  z22 := Try.sizeOf53,
  v22 := Try.zeroValue53,
  t25 := Try.underlying68,
  a25 := Try.isAgg68,
  z25 := Try.sizeOf68,
  v25 := Try.zeroValue68,
  t39 := Try.underlying49,
  a39 := Try.isAgg49,
  z39 := Try.sizeOf49,
  v39 := Try.zeroValue49,
  t45 := Try.underlying83,
  a45 := Try.isAgg83,
  z45 := Try.sizeOf83,
  v45 := Try.zeroValue83,
  t46 := Try.underlying84,
  a46 := Try.isAgg84,
  z46 := Try.sizeOf84,
  v46 := Try.zeroValue84,
  t50 := Try.underlying43,
  a50 := Try.isAgg43,
  z50 := Try.sizeOf43,
  v50 := Try.zeroValue43,
  t53 := Try.underlying48,
  a53 := Try.isAgg48,
  z53 := Try.sizeOf48,
  v53 := Try.zeroValue48,
  t55 := Try.underlying46,
  a55 := Try.isAgg46,
  z55 := Try.sizeOf46,
  v55 := Try.zeroValue46,
  t66 := Try.underlying91,
  a66 := Try.isAgg91,
  z66 := Try.sizeOf91,
  v66 := Try.zeroValue91,
  t70 := Try.underlying95,
  a70 := Try.isAgg95,
  z70 := Try.sizeOf95,
  v70 := Try.zeroValue95,
  t76 := Try.underlying97,
  a76 := Try.isAgg97,
  z76 := Try.sizeOf97,
  v76 := Try.zeroValue97,
  t77 := Try.underlying98,
  a77 := Try.isAgg98,
  z77 := Try.sizeOf98,
  v77 := Try.zeroValue98
}

def enc2 (e : List DV) : List Value := [.int .i64 (gi e 0), .int .i64 (gi e 1)]
def cfE (x y : List DV) : Int := if Lib.compareInt (gi y 1) (gi x 1) ≠ 0 then Lib.compareInt (gi y 1) (gi x 1) else Lib.compareInt (gi x 0) (gi y 0)
def cfL (x y : List DV) : Int := if Lib.compareInt (gi x 1) (gi y 1) ≠ 0 then Lib.compareInt (gi x 1) (gi y 1) else Lib.compareInt (gi y 0) (gi x 0)
theorem ltE (x y : List DV) : ltOf cfE x y = true ↔ gi y 1 < gi x 1 ∨ (gi y 1 = gi x 1 ∧ gi x 0 < gi y 0) := by
  unfold ltOf cfE Lib.compareInt
  simp only [decide_eq_true_eq]
  repeat' split
  all_goals omega
theorem ltL (x y : List DV) : ltOf cfL x y = true ↔ gi x 1 < gi y 1 ∨ (gi x 1 = gi y 1 ∧ gi y 0 < gi x 0) := by
  unfold ltOf cfL Lib.compareInt
  simp only [decide_eq_true_eq]
  repeat' split
  all_goals omega
theorem swoE : Go.Sort.SWO (ltOf cfE) where
  irrefl x := by rw [← Bool.not_eq_true, ltE]; omega
  trans x y z h1 h2 := by rw [ltE] at *; omega
  ntrans x y z h1 h2 := by rw [← Bool.not_eq_true, ltE] at *; omega
theorem swoL : Go.Sort.SWO (ltOf cfL) where
  irrefl x := by rw [← Bool.not_eq_true, ltL]; omega
  trans x y z h1 h2 := by rw [ltL] at *; omega
  ntrans x y z h1 h2 := by rw [← Bool.not_eq_true, ltL] at *; omega
theorem rowV2 (e : List DV) (h : HasShs prow e) : rowV prow e = enc2 e := by
  cases e with
  | nil => simp [HasShs] at h
  | cons u r => cases r with
    | nil => simp [HasShs] at h
    | cons v s => cases s with
      | nil => rfl
      | cons w z => simp [HasShs] at h
theorem one2 (e : List DV) : ∀ v ∈ enc2 e, v.oneCell' = true := fun v hv => by simp [enc2] at hv; rcases hv with rfl | rfl <;> rfl
theorem cSrtE_ok (N : Nat) (w0 : World) : ConOk Try.prog tb N w0 (cSrt false 35) := fun _ => ⟨fun h => by simp [cSrt] at h, fun q hq => by
  have hq' : q = ⟨664, prow, some 35⟩ := by simpa [cSrt] using hq.symm
  subst hq'
  refine sort_in sortC (g := 35) cfE enc2 rfl rfl (by decide) Try.isAgg59 Try.sizeOf59 (fun _ => rfl) one2 rowV2 swoE (enters_of Try.func35 (by kernel_rfl) rfl) (fun x y W => cmpE (gi x 0, gi x 1) (gi y 0, gi y 1) W) rfl (by decide) fun x ys hp hs => ⟨hp, hs.imp fun {a b} h => ?_⟩
  unfold leP ahF
  rw [← Bool.not_eq_true, ltE] at h
  simp only [Bool.false_eq_true, if_false]
  omega⟩
theorem cSrtL_ok (N : Nat) (w0 : World) : ConOk Try.prog tb N w0 (cSrt true 37) := fun _ => ⟨fun h => by simp [cSrt] at h, fun q hq => by
  have hq' : q = ⟨664, prow, some 37⟩ := by simpa [cSrt] using hq.symm
  subst hq'
  refine sort_in sortC (g := 37) cfL enc2 rfl rfl (by decide) Try.isAgg59 Try.sizeOf59 (fun _ => rfl) one2 rowV2 swoL (enters_of Try.func37 (by kernel_rfl) rfl) (fun x y W => cmpL (gi x 0, gi x 1) (gi y 0, gi y 1) W) rfl (by decide) fun x ys hp hs => ⟨hp, hs.imp fun {a b} h => ?_⟩
  unfold leP ahF
  rw [← Bool.not_eq_true, ltL] at h
  simp only [if_true]
  omega⟩
#print axioms cSrtL_ok
end Go.Proofs.Ytcjdheaaddaagaa
