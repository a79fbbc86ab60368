/- DERIVED. The contract of field.Value. -/
import Derived.Test.YtmmoenbdlfmgeaaAt
import Derived.Deep.RegionHeld3
namespace Go.Proofs.Ytmmoenbdlfmgeaa
open Go.RowKit
def IntsAt (n : Nat) (W : World) (b off : Nat) (cs : List Int) : Prop :=
  b < n ∧ ∀ j, j < cs.length → W.cell? ⟨b, off + j, none⟩ = some (.int .i64 (cs[j]?.getD 0))
theorem IntsAt.below {n : Nat} {A B : World} (h : Below n A B) {b off : Nat} {cs : List Int} (hp : IntsAt n A b off cs) : IntsAt n B b off cs :=
  ⟨hp.1, fun j hj => (h.cell (p := ⟨b, off + j, none⟩) hp.1).trans (hp.2 j hj)⟩
/-- The value of a polynomial. -/
def hor (at_ : Int) : List Int → Int
  | [] => 0
  | c :: r => md (md (hor at_ r * at_) + c)
theorem hor_bd (at_ : Int) (cs : List Int) : 0 ≤ hor at_ cs ∧ hor at_ cs < 1073741789 := by
  cases cs with
  | nil => simp [hor]
  | cons c r => exact ⟨md_lo _, md_hi _⟩
theorem hor_drop (at_ : Int) (cs : List Int) (k : Nat) (h : k < cs.length) : hor at_ (cs.drop k) = md (md (hor at_ (cs.drop (k + 1)) * at_) + cs[k]?.getD 0) := by
  rw [List.drop_eq_getElem_cons h]; simp [hor, h]

set_option maxRecDepth 100000 in
set_option maxHeartbeats 1000000 in
theorem value_any (b off cap : Nat) (at_ : Int) (cs : List Int) (hlen : cs.length ≤ 100000000000000) (w : World) (hP : IntsAt w.heap.size w b off cs) :
    Calls Try.prog 21 #[.slice (some ⟨b, off, none⟩) cs.length cap, .int .i64 at_] w fun e w' => e = .returned (.int .i64 (hor at_ cs)) ∧ Below w.heap.size w w' := by
  go_enter Try.func21, Try.ntmps21
  go_wp2
  go_loopw [5, 4] (fun c y wr => ∃ k : Nat, k ≤ cs.length ∧ c = .int .i64 ((k : Int) - 1) ∧ y = .int .i64 (hor at_ (cs.drop k)) ∧ Below w.heap.size w wr) (fun c _ _ => (intOf c + 1).toNat)
  case atStart => exact ⟨cs.length, Nat.le_refl _, by simp, by simp [hor], Below.refl _ _⟩
  case round =>
    obtain ⟨k, hk, rfl, rfl, hB⟩ := hrel
    have hh := hor_bd at_ (cs.drop k)
    by_cases hk0 : k = 0
    · obtain rfl := hk0
      go_wp2
      go_ret
      exact ⟨by simp, hB⟩
    · obtain ⟨j, rfl⟩ : ∃ j, k = j + 1 := ⟨k - 1, by omega⟩
      have cX := (hP.below hB).2 j (by omega)
      have HD := Lib.hid (hor_drop at_ cs j (by omega))
      obtain ⟨x, hx⟩ : ∃ x, x = cs[j]?.getD 0 := ⟨_, rfl⟩
      rw [← hx] at cX HD
      clear hx
      rw [show (((j + 1 : Nat) : Int) - 1) = (j : Int) from by omega]
      have hj1 : (j : Int) < (cs.length : Int) := by omega
      go_wp2
      go_region_held3 (fun w' => w'.cell? ⟨b, off + j, none⟩ = some (.int .i64 x)) (first | exact cX | exact cellAl _ cX | go_keep) (first | (go_at_call 16; refine (mul_any _ _ _).mono ?_; rintro e w' ⟨rfl, rfl⟩) | (go_at_call 26; refine (sum_any (md (hor at_ (cs.drop (j + 1)) * at_)) x _ _ (by go_simp) (by go_simp)).mono ?_; rintro e w' ⟨rfl, rfl⟩))
      go_wp2
      go_roundw
      case rel => exact ⟨j, by omega, by go_num, by rw [HD.out], (hB.alloc hB.size _).drew⟩
      case measure => simp [intOf]

set_option maxHeartbeats 1000000 in
theorem value_nil (a : Option Addr) (cap : Nat) (at_ : Int) (w : World) :
    Calls Try.prog 21 #[.slice a 0 cap, .int .i64 at_] w fun e w' => e = .returned (.int .i64 0) ∧ w = w' := by
  go_enter Try.func21, Try.ntmps21
  go_wp2
  refine wp_loop_rounds 1 ?_; rw [rounds_succ]
  go_wp2
  go_ret
  exact ⟨rfl, rfl⟩
end Go.Proofs.Ytmmoenbdlfmgeaa
