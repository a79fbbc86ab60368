/- DERIVED. What a disk's history comes to. -/
import Derived.Test.YtdhdpgdifphfkaaDcond
import Derived.Test.YtdhdpgdifphfkaaDlawb
namespace Go.Proofs.Ytdhdpgdifphfkaa
open Go.Dx Go.RowKit
set_option linter.unusedVariables false
set_option linter.unusedSimpArgs false
theorem four {i : Int} (h0 : 0 ≤ i) (h1 : i < 4) : i = 0 ∨ i = 1 ∨ i = 2 ∨ i = 3 := by omega
theorem sec2_len (f s : Int) : (sec2 f s).length = 128 := by
  simp only [sec2, List.length_append, List.length_cons, List.length_replicate]
theorem sec2_dbl (c : Int) : sec2 c c = dblL c := rfl
theorem dblL_len (c : Int) : (dblL c).length = 128 := sec2_len c c
theorem secs4_at (f s : A4) {i : Int} (h0 : 0 ≤ i) (h1 : i < 4) : (secs4 f s).getD i.toNat [] = sec2 (getA f i) (getA s i) := by
  rcases four h0 h1 with rfl | rfl | rfl | rfl <;> rfl
theorem secs4_set (f s : A4) {i : Int} (b c : Int) (h0 : 0 ≤ i) (h1 : i < 4) : (secs4 f s).set i.toNat (sec2 b c) = secs4 (setA f i b) (setA s i c) := by
  rcases four h0 h1 with rfl | rfl | rfl | rfl <;> rfl
theorem setA_get (f : A4) {i : Int} (h0 : 0 ≤ i) (h1 : i < 4) : setA f i (getA f i) = f := by
  rcases four h0 h1 with rfl | rfl | rfl | rfl <;> rfl
theorem getA_set (f : A4) {i j : Int} (b : Int) (h0 : 0 ≤ i) (h1 : i < 4) (k0 : 0 ≤ j) (k1 : j < 4) : getA (setA f i b) j = if i = j then b else getA f j := by
  rcases four h0 h1 with rfl | rfl | rfl | rfl <;> rcases four k0 k1 with rfl | rfl | rfl | rfl <;> rfl
def okW (w : List Act2) : Prop := ∀ a ∈ w, 0 ≤ a.1 ∧ a.1 < 4
theorem app_next (f : A4) (w : List Act2) (a : Act2) : appA f (w ++ [a]) = setA (appA f w) a.1 a.2 := by unfold appA; rw [List.foldl_append]; rfl
theorem pw_len (w : List Act2) : (pw w).length = w.length := by simp [pw]
theorem pw_app (w : List Act2) (a : Act2) : pw (w ++ [a]) = pw w ++ [(a.1, dblL a.2)] := by simp [pw]
theorem do_secs : ∀ {w : List Act2} (f : A4), okW w → doP (secs4 f f) (pw w) = secs4 (appA f w) (appA f w)
  | [], f, _ => rfl
  | a :: w, f, h => by
    have ha := h a (List.mem_cons_self ..)
    have ih := do_secs (w := w) (setA f a.1 a.2) fun x hx => h x (List.mem_cons_of_mem _ hx)
    have e : doP (secs4 f f) (pw (a :: w)) = doP ((secs4 f f).set a.1.toNat (sec2 a.2 a.2)) (pw w) := rfl
    rw [e, secs4_set f f _ _ ha.1 ha.2, ih]; rfl
theorem last_secs {i : Int} (h0 : 0 ≤ i) (h1 : i < 4) : ∀ {w : List Act2} (f : A4), okW w → lastP i (pw w) (dblL (getA f i)) = dblL (getA (appA f w) i)
  | [], f, _ => rfl
  | a :: w, f, h => by
    have ha := h a (List.mem_cons_self ..)
    have ih := last_secs h0 h1 (w := w) (setA f a.1 a.2) fun x hx => h x (List.mem_cons_of_mem _ hx)
    have e : lastP i (pw (a :: w)) (dblL (getA f i)) = lastP i (pw w) (if a.1 = i then dblL a.2 else dblL (getA f i)) := rfl
    have e2 : (if a.1 = i then dblL a.2 else dblL (getA f i)) = dblL (getA (setA f a.1 a.2) i) := by
      rw [getA_set f _ ha.1 ha.2 h0 h1]
      by_cases k : a.1 = i
      · rw [if_pos k, if_pos k]
      · rw [if_neg k, if_neg k]
    rw [e, e2, ih]; rfl
theorem tear_secs (f : A4) (a : Act2) (h : 0 ≤ a.1 ∧ a.1 < 4) : tearL (secs4 f f) (a.1, dblL a.2) = secs4 (setA f a.1 a.2) f := by
  unfold tearL
  have e : (dblL a.2).take 64 ++ ((secs4 f f).getD a.1.toNat []).drop 64 = sec2 a.2 (getA f a.1) := by
    rw [secs4_at f f h.1 h.2]; rfl
  show (secs4 f f).set a.1.toNat ((dblL a.2).take 64 ++ ((secs4 f f).getD a.1.toNat []).drop 64) = _
  rw [e, secs4_set f f _ _ h.1 h.2, setA_get f h.1 h.2]
theorem run_secs (f s : A4) {l : Int} (hl : -1 ≤ l ∧ l ≤ 65536) : runD (secs4 f s, [], l, 0) := by
  refine ⟨⟨⟨⟨(by decide : 1 ≤ 4), (by decide : 4 ≤ 4096)⟩, by simp, hl⟩, fun x hx => ?_, fun p hp => (by cases hp)⟩, rfl⟩
  have hx : x ∈ secs4 f s := hx
  simp only [secs4, List.mem_cons, List.not_mem_nil, or_false] at hx
  rcases hx with rfl | rfl | rfl | rfl <;> exact sec2_len _ _
theorem run_pend (f s : A4) {w : List Act2} {l : Int} (hl : -1 ≤ l ∧ l ≤ 65536) (hw : okW w) (hn : w.length ≤ 4096) : runD (secs4 f s, pw w, l, 0) := by
  obtain ⟨⟨⟨h1, h2, h3⟩, h4, h5⟩, h6⟩ := run_secs f s hl
  refine ⟨⟨⟨h1, by simp only [pw_len]; exact hn, h3⟩, h4, fun p hp => ?_⟩, h6⟩
  obtain ⟨a, ha, rfl⟩ := List.mem_map.1 hp
  exact ⟨hw a ha, dblL_len _⟩
theorem in_secs (f s : A4) {p : Pen} {l t i : Int} (h0 : 0 ≤ i) (h1 : i < 4) : inD (secs4 f s, p, l, t) i := ⟨h0, h1⟩
theorem hold_secs (f s : A4) {l : Int} (hl : -1 ≤ l ∧ l ≤ 65536) : hYes (secs4 f s, [], l, 0) f s := fun i h0 h1 => by
  rw [← read_yes ⟨run_secs f s hl, in_secs f s h0 h1⟩, ← secs4_at f s h0 h1]; rfl
theorem hold_pend (f : A4) {w : List Act2} {l : Int} (hl : -1 ≤ l ∧ l ≤ 65536) (hw : okW w) (hn : w.length ≤ 4096) : hYes (secs4 f f, pw w, l, 0) (appA f w) (appA f w) := fun i h0 h1 => by
  rw [← read_yes ⟨run_pend f f hl hw hn, in_secs f f h0 h1⟩]
  show (lastP i (pw w) ((secs4 f f).getD i.toNat []), (0 : Int)) = _
  rw [secs4_at f f h0 h1, sec2_dbl, last_secs h0 h1 f hw]; rfl
theorem mv_in {e : List DV} (h : HasShs mv e) : ∃ a b c, e = [.n a, .n b, .n c] ∧ (0 ≤ b ∧ b ≤ 255) ∧ (0 ≤ c ∧ c ≤ 255) := by
  match e, h with
  | [x, y, z], h =>
    simp only [HasShs, HasSh, and_true] at h
    obtain ⟨⟨a, rfl, _⟩, ⟨b, rfl, hb, _⟩, ⟨c, rfl, hc, _⟩⟩ := h
    exact ⟨a, b, c, rfl, hb, hc⟩
  | [], h => simp [HasShs] at h
  | [_], h => simp [HasShs] at h
  | [_, _], h => simp [HasShs] at h
  | _ :: _ :: _ :: _ :: _, h => simp [HasShs] at h
theorem acts_ok {w : List (List DV)} {mx : Nat} (h : HasSh (.sl mx mv) (.sl none 0 w)) : okW (acts (.sl none 0 w)) := fun a ha => by
  simp only [HasSh, DV.els] at h
  obtain ⟨e, he, rfl⟩ := List.mem_map.1 ha
  obtain ⟨x, b, c, rfl, hb, _⟩ := mv_in (h.2 e he)
  exact ⟨Int.tmod_nonneg 4 hb.1, Int.tmod_lt_of_pos b (by decide)⟩
theorem acts_len (w : List (List DV)) : (acts (.sl none 0 w)).length = w.length := by simp [acts, DV.els]
theorem acts_at {w : List (List DV)} {mx : Nat} (h : HasSh (.sl mx mv) (.sl none 0 w)) {i : Int} (h0 : 0 ≤ i) (h1 : i < w.length) :
    (acts (.sl none 0 w)).getD i.toNat (0, 0) = (Int.tmod ((DV.sl none 0 w).at i 1) 4, (DV.sl none 0 w).at i 2) ∧ (0 ≤ Int.tmod ((DV.sl none 0 w).at i 1) 4 ∧ Int.tmod ((DV.sl none 0 w).at i 1) 4 < 4) := by
  have h2 : i.toNat < w.length := by omega
  simp only [HasSh, DV.els] at h
  obtain ⟨x, b, c, he, hb, hc⟩ := mv_in (h.2 _ (List.getElem_mem h2))
  have e0 : (DV.sl none 0 w).els.getD i.toNat [] = [.n x, .n b, .n c] := by
    show w.getD i.toNat [] = _
    rw [List.getD_eq_getElem?_getD, List.getElem?_eq_getElem h2, ← he]; rfl
  have e1 : (DV.sl none 0 w).at i 1 = b := by
    show (((DV.sl none 0 w).els.getD i.toNat []).getD 1 (.n 0)).cint = b
    rw [e0]; exact clampB_i64 (x := b) (by omega) (by omega)
  have e2 : (DV.sl none 0 w).at i 2 = c := by
    show (((DV.sl none 0 w).els.getD i.toNat []).getD 2 (.n 0)).cint = c
    rw [e0]; exact clampB_i64 (x := c) (by omega) (by omega)
  rw [e1, e2]
  refine ⟨?_, Int.tmod_nonneg 4 hb.1, Int.tmod_lt_of_pos b (by decide)⟩
  rw [List.getD_eq_getElem?_getD]
  show ((w.map actE)[i.toNat]?).getD (0, 0) = _
  rw [List.getElem?_map, List.getElem?_eq_getElem h2, he]
  rfl
theorem acts_app (w : List (List DV)) (a b c : Int) : acts (.sl none 0 (w ++ [[.n a, .n b, .n c]])) = acts (.sl none 0 w) ++ [(Int.tmod b 4, c)] := by simp only [acts, DV.els, List.map_append]; rfl
theorem okW_app {w : List Act2} {a : Act2} (h : okW w) (ha : 0 ≤ a.1 ∧ a.1 < 4) : okW (w ++ [a]) := fun x hx => by
  rcases List.mem_append.1 hx with m | m
  · exact h x m
  · rw [List.mem_singleton.1 m]; exact ha
theorem okW_take {w : List Act2} (h : okW w) (n : Nat) : okW (w.take n) := fun x hx => h x (List.mem_of_mem_take hx)
theorem app_take {f : A4} {w : List Act2} {i : Int} (h0 : 0 ≤ i) (h1 : i < w.length) : appA f (w.take (i + 1).toNat) = setA (appA f (w.take i.toNat)) (w.getD i.toNat (0, 0)).1 (w.getD i.toNat (0, 0)).2 := by
  rw [take_next (0, 0) h0 h1, app_next]
theorem pw_take (w : List Act2) (n : Nat) : (pw w).take n = pw (w.take n) := by simp [pw]
theorem pw_get (w : List Act2) {i : Nat} (h : i < w.length) : (pw w).getD i (0, []) = ((w.getD i (0, 0)).1, dblL (w.getD i (0, 0)).2) := by
  rw [List.getD_eq_getElem?_getD, List.getD_eq_getElem?_getD, pw, List.getElem?_map, List.getElem?_eq_getElem h]; rfl
/-- What is written. -/
theorem his_write {d d' : D4} {last f s : A4} {w : List Act2} {room e : Int} {a : Act2} {b : List Int} (h : hisP d last f s w room) (hw : okW w) (hn : w.length ≤ 60) (ha : 0 ≤ a.1 ∧ a.1 < 4) (hb : b = dblL a.2) (hr : ((d', e) : D4 × Int) = writeQ d a.1 b) :
    e = 0 ∧ hisP d' (setA last a.1 a.2) f s (w ++ [a]) room ∧ hYes d' (setA last a.1 a.2) (setA last a.1 a.2) := by
  obtain ⟨h1, h2, h3, h4, h5⟩ := h
  rw [h3, hb] at hr
  obtain ⟨r1, r2⟩ := d5_in (hr.trans (write_yes ⟨run_pend f f (by omega) hw (by omega), in_secs f f ha.1 ha.2⟩ (by rw [dblL_len]; decide) (by rw [pw_len]; omega)).symm)
  rw [pad_id (dblL_len _), ← pw_app] at r1
  have e1 : setA last a.1 a.2 = appA f (w ++ [a]) := by rw [h2, app_next]
  refine ⟨r2, ⟨h1, e1, r1, h4, h5⟩, ?_⟩
  rw [e1, r1]
  exact hold_pend f (by omega) (okW_app hw ha) (by rw [List.length_append]; simp only [List.length_cons, List.length_nil]; omega)
/-- What is synced. -/
theorem his_sync {d d' : D4} {last f s : A4} {w : List Act2} {room e : Int} (h : hisP d last f s w room) (hw : okW w) (hn : w.length ≤ 60) (hr : ((d', e) : D4 × Int) = syncQ d) :
    (room < w.length → e = 40 ∧ d'.2.2.2 = 1 ∧ ∀ d2, d2 = resQ d' → hYes d2 (appA f (w.take (room + 1).toNat)) (appA f (w.take room.toNat))) ∧
    (¬ room < w.length → e = 0 ∧ hYes d' last last ∧ hisP d' last (appA f w) (appA f w) [] (room - w.length)) := by
  obtain ⟨h1, h2, h3, h4, h5⟩ := h
  have rd := run_pend f f (l := room) (by omega) hw (by omega)
  rw [h3] at hr
  refine ⟨fun k => ?_, fun k => ?_⟩
  · obtain ⟨r1, r2⟩ := d5_in (hr.trans (sync_stop rd ⟨h4, by rw [pw_len]; exact k⟩).symm)
    have hin := hw _ (getD_in (0, 0) (show room.toNat < w.length by omega))
    have e1 : tearL (doP (secs4 f f) ((pw w).take room.toNat)) ((pw w).getD room.toNat (0, [])) = secs4 (appA f (w.take (room + 1).toNat)) (appA f (w.take room.toNat)) := by
      rw [pw_take, do_secs f (okW_take hw _), pw_get w (by omega), tear_secs _ _ hin, app_take h4 (by omega)]
    rw [e1] at r1
    refine ⟨r2, by rw [r1], fun d2 hd => ?_⟩
    rw [hd, r1]
    exact hold_secs _ _ (by omega)
  · obtain ⟨r1, r2⟩ := d5_in (hr.trans (sync_yes rd (by rw [pw_len]; omega)).symm)
    rw [do_secs f hw, if_pos h4, pw_len] at r1
    refine ⟨r2, ?_, ⟨rfl, h2, r1, by omega, by omega⟩⟩
    rw [r1, h2]
    exact hold_secs _ _ (by omega)
end Go.Proofs.Ytdhdpgdifphfkaa
