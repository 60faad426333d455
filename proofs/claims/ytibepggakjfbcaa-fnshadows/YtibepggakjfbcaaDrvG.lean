/- A law's lists of shadow variables: what stands after a value was laid down, set and freed. -/
import Derived.Test.YtibepggakjfbcaaDrvL
namespace Go.Proofs.Ytibepggakjfbcaa
open Go Go.RowKit Go.Maps
set_option linter.unusedVariables false

theorem mem_nth {L : List ShwD} {e : ShwD} (h : e ∈ L) : ∃ k, k < L.length ∧ nthD L k = e := by
  rw [← lstS_self L] at h
  obtain ⟨k, hk, he⟩ := lstS_mem.1 h
  exact ⟨k, hk, he⟩
theorem nth_mem {L : List ShwD} {k : Nat} (h : k < L.length) : nthD L k ∈ L := by simp [nthD, h]
theorem Fine.getV {L : List ShwD} (h : Fine L) {e : ShwD} (he : e ∈ L) : getV L (keyD e) = e.va := by
  obtain ⟨k, hk, rfl⟩ := mem_nth he
  have := getV_at h.ok hk
  rwa [lstS_self] at this
theorem Fine.free_len {L : List ShwD} (h : Fine L) {x : Int × Int} (hh : hasL L x = true) : (freL L x).length + 1 = L.length := by
  obtain ⟨e, he, rfl⟩ := hasL_iff.1 hh
  obtain ⟨k, hk, rfl⟩ := mem_nth he
  have h1 := freL_at h.ok hk
  rw [lstS_self] at h1
  rw [h1, List.length_append, lstS_len, lstS_len]
  omega
theorem hasL_fre (L : List ShwD) (x : Int × Int) : hasL (freL L x) x = false := by
  cases hh : hasL (freL L x) x with
  | false => rfl
  | true =>
    obtain ⟨e, he, hx⟩ := hasL_iff.1 hh
    have := (List.mem_filter.1 he).2
    simp [hx] at this
theorem setL_key (d e : ShwD) : keyD (if keyD e = keyD d then d else e) = keyD e := by
  split
  · rename_i h; exact h.symm
  · rfl
theorem fre_set (d : ShwD) (L : List ShwD) : freL (setL d L) (keyD d) = freL L (keyD d) := by
  induction L with
  | nil => rfl
  | cons e r ih =>
    have ih' : List.filter (fun e => decide (keyD e ≠ keyD d)) (List.map (fun e => if keyD e = keyD d then d else e) r) = List.filter (fun e => decide (keyD e ≠ keyD d)) r := ih
    show List.filter (fun e => decide (keyD e ≠ keyD d)) (List.map (fun e => if keyD e = keyD d then d else e) (e :: r)) = List.filter (fun e => decide (keyD e ≠ keyD d)) (e :: r)
    rw [List.map_cons, List.filter_cons, List.filter_cons, ih', setL_key]
    by_cases h : keyD e = keyD d
    · simp [h]
    · simp [h]
theorem fre_ins (d : ShwD) : ∀ L, freL (insL d L) (keyD d) = freL L (keyD d)
  | [] => by simp [insL, freL]
  | e :: r => by
    have ih : List.filter (fun e => decide (keyD e ≠ keyD d)) (insL d r) = List.filter (fun e => decide (keyD e ≠ keyD d)) r := fre_ins d r
    unfold insL
    split
    · show List.filter _ (e :: insL d r) = List.filter _ (e :: r)
      rw [List.filter_cons, List.filter_cons, ih]
    · show List.filter _ (d :: e :: r) = List.filter _ (e :: r)
      rw [List.filter_cons]
      simp
theorem set_len (d : ShwD) (L : List ShwD) : (setL d L).length = L.length := by simp [setL]
theorem Fine.set {L : List ShwD} {d : ShwD} (h : Fine L) (hd : d.wf) (hi : idP d.ix) : Fine (setL d L) := by
  refine ⟨by rw [set_len]; exact h.1, setL_srt h.2.1, fun e he => ?_⟩
  obtain ⟨f, hf, rfl⟩ := List.mem_map.1 he
  split
  · exact ⟨hd, hi⟩
  · exact h.2.2 f hf

/-- What stands after: laid down, set, freed. -/
structure Aft (L X Y Z : List ShwD) (o x v : Int) : Prop where
  fX : Fine X
  fY : Fine Y
  fZ : Fine Z
  hX : hasL X (o, x) = true
  eY : putL X ⟨o, x, v⟩ = Y
  hY : hasL Y (o, x) = true
  gY : getV Y (o, x) = v
  eZ : freL Y (o, x) = Z
  hZ : hasL Z (o, x) = false
  len : Z.length + 1 = Y.length
  all : ∀ e ∈ L, keyD e ≠ (o, x) → hasL Z (keyD e) = true ∧ getV Z (keyD e) = e.va

theorem aft {L X : List ShwD} {o x v : Int} (hF : Fine X) (hd : (⟨o, x, v⟩ : ShwD).wf) (hi : idP x) (hX : hasL X (o, x) = true) (hLX : freL X (o, x) = freL L (o, x)) :
    Aft L X (setL ⟨o, x, v⟩ X) (freL X (o, x)) o x v := by
  have fY : Fine (setL ⟨o, x, v⟩ X) := hF.set hd hi
  have fZ : Fine (freL X (o, x)) := hF.filter _
  have eZ : freL (setL ⟨o, x, v⟩ X) (o, x) = freL X (o, x) := fre_set ⟨o, x, v⟩ X
  have mY : (⟨o, x, v⟩ : ShwD) ∈ setL ⟨o, x, v⟩ X := by
    obtain ⟨e, he, hx⟩ := hasL_iff.1 hX
    exact List.mem_map.2 ⟨e, he, if_pos hx⟩
  have hY : hasL (setL ⟨o, x, v⟩ X) (o, x) = true := hasL_iff.2 ⟨_, mY, rfl⟩
  refine ⟨hF, fY, fZ, hX, ?_, hY, fY.getV mY, eZ, hasL_fre _ _, ?_, ?_⟩
  · unfold putL
    rw [if_pos (show hasL X (keyD ⟨o, x, v⟩) = true from hX)]
  · rw [← eZ]; exact fY.free_len hY
  · intro e he hne
    have hz : e ∈ freL X (o, x) := by
      rw [hLX]
      exact List.mem_filter.2 ⟨he, by simpa using hne⟩
    exact ⟨hasL_iff.2 ⟨e, hz, rfl⟩, fZ.getV hz⟩
theorem alcZ {L : List ShwD} {p : Option Addr} {c : Nat} (o x v : Int) (w : World) (hL : Fine L) (hx : idP x) (hp : LstAt w L p c) :
    Calls Try.prog 10 #[.slice p L.length c, .int .i64 o, .int .i64 x, .int .i64 v] w fun e w' => ∃ q d, e = .returned (.tuple #[.slice q (alcL L ⟨o, x, v⟩).length d, .int .i64 (alcF L (o, x))]) ∧ LstAt w' (alcL L ⟨o, x, v⟩) q d ∧ Below w.heap.size w w' := by
  have h16 := hL.1
  have e := lstS_self L
  refine (alcS p L.length c (nthD L) o x v (alcL L ⟨o, x, v⟩) (alcF L (o, x)) w (by omega) hp.1 hp.2 (.inr ⟨hL.ok, hx, by rw [e], by rw [e]⟩)).mono ?_
  rintro e w' ⟨q, d, rfl, hd, hO, hb⟩
  exact ⟨q, d, rfl, ⟨hd, hO.rows⟩, hb⟩
end Go.Proofs.Ytibepggakjfbcaa
