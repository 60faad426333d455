/- Shadow variables: has, alloc, put, free of the program's map. -/
import Derived.Test.YtibepggakjfbcaaOpnC
namespace Go.Proofs.Ytibepggakjfbcaa
open Go Go.RowKit Go.Maps
set_option linter.unusedVariables false

def hasL (L : List ShwD) (x : Int × Int) : Bool := L.any fun d => decide (keyD d = x)
theorem hasL_iff {L : List ShwD} {x : Int × Int} : hasL L x = true ↔ ∃ d ∈ L, keyD d = x := by simp [hasL]
theorem MapIs.hasEq {D : DataW Unit} {L : List ShwD} (h : MapIs D L) {x : Int × Int} (hx : wfK x) : Maps.has D (klK x) = hasL L x := by
  have h1 := (h.has x hx).trans hasL_iff.symm
  cases h2 : Maps.has D (klK x) <;> cases h3 : hasL L x <;> simp_all
/-- In its place. -/
def insL (d : ShwD) : List ShwD → List ShwD
  | [] => [d]
  | e :: r => if ltK (keyD e) (keyD d) then e :: insL d r else d :: e :: r
theorem insL_perm (d : ShwD) : ∀ L, (insL d L).Perm (d :: L)
  | [] => List.Perm.refl _
  | e :: r => by
    unfold insL
    split
    · exact ((insL_perm d r).cons e).trans (List.Perm.swap d e r)
    · exact List.Perm.refl _
theorem insL_len (d : ShwD) (L : List ShwD) : (insL d L).length = L.length + 1 := by rw [(insL_perm d L).length_eq]; rfl
theorem insL_srt (d : ShwD) : ∀ L, Srt L → (∀ e ∈ L, keyD e ≠ keyD d) → Srt (insL d L)
  | [], _, _ => List.pairwise_singleton _ _
  | e :: r, h, hn => by
    obtain ⟨h1, h2⟩ := List.pairwise_cons.1 h
    unfold insL
    split
    · rename_i hl
      refine List.pairwise_cons.2 ⟨fun f hf => ?_, insL_srt d r h2 (fun f hf => hn f (List.mem_cons_of_mem _ hf))⟩
      rcases List.mem_cons.1 ((insL_perm d r).mem_iff.1 hf) with rfl | h'
      · exact hl
      · exact h1 f h'
    · rename_i hl
      have hde : ltK (keyD d) (keyD e) := by
        rcases ltK_tri (keyD e) (keyD d) with h' | h' | h'
        · exact absurd h' hl
        · exact absurd h' (hn e List.mem_cons_self)
        · exact h'
      refine List.pairwise_cons.2 ⟨fun f hf => ?_, h⟩
      rcases List.mem_cons.1 hf with rfl | h'
      · exact hde
      · exact ltK_trans hde (h1 f h')
def alcF (L : List ShwD) (x : Int × Int) : Int := if hasL L x then 24 else if L.length = 16 then 7 else 0
def alcL (L : List ShwD) (d : ShwD) : List ShwD := if hasL L (keyD d) then L else if L.length = 16 then L else insL d L
def putF (L : List ShwD) (x : Int × Int) : Int := if hasL L x then 0 else 5
def putL (L : List ShwD) (d : ShwD) : List ShwD := if hasL L (keyD d) then setL d L else L
def freL (L : List ShwD) (x : Int × Int) : List ShwD := L.filter fun e => keyD e ≠ x
theorem freL_none {L : List ShwD} {x : Int × Int} (h : hasL L x = false) : freL L x = L := by
  unfold freL
  refine List.filter_eq_self.2 fun e he => ?_
  have : ¬ keyD e = x := fun h' => by rw [hasL_iff.2 ⟨e, he, h'⟩] at h; cases h
  simpa using this
theorem alcL_srt {L : List ShwD} {d : ShwD} (h : Srt L) : Srt (alcL L d) := by
  unfold alcL
  split
  · exact h
  · rename_i hh
    split
    · exact h
    · exact insL_srt d L h (fun e he h' => hh (hasL_iff.2 ⟨e, he, h'⟩))
theorem putL_srt {L : List ShwD} {d : ShwD} (h : Srt L) : Srt (putL L d) := by
  unfold putL
  split
  · exact setL_srt h
  · exact h
theorem freL_srt {L : List ShwD} {x : Int × Int} (h : Srt L) : Srt (freL L x) := h.filter _

theorem grown_none {w w' : World} (h : Below w.heap.size w w') : w.grownBy w' none := ⟨h.os, h.tape, h.output, h.size, fun i hi _ => h.block i hi⟩
theorem grown_but {w w2 w3 : World} {b : Nat} (h : Below w.heap.size w w2) (hg : w2.grownBy w3 (some b)) : w.grownBy w3 (some b) :=
  ⟨hg.os.trans h.os, hg.tape.trans h.tape, hg.output.trans h.output, Nat.le_trans h.size hg.size, fun i hi hne => (hg.block i (Nat.lt_of_lt_of_le hi h.size) hne).trans (h.block i hi)⟩
theorem grown_to {w w2 : World} {b : Nat} (h : Below w.heap.size w w2) : w.grownBy w2 (some b) := ⟨h.os, h.tape, h.output, h.size, fun i hi _ => h.block i hi⟩

set_option maxRecDepth 100000 in
set_option maxHeartbeats 2000000 in
theorem hasC (b n : Nat) (D : DataW Unit) (x : Int × Int) (w : World) (hown : w.ownsMap Try.prog 51 pE b n D) (hx : wfK x) :
    Calls Try.prog 31 #[.map (some b), kA x] w fun e w' => e = .returned (.bool (Maps.has D (klK x))) ∧ Below w.heap.size w w' := by
  have hkey := keyK x hx
  obtain ⟨ob, ix⟩ := x
  have ho := hown.alloc (.cells #[.int .i64 ob, .int .i64 ix] 51)
  have bX := grown1' w (.cells #[.int .i64 ob, .int .i64 ix] 51)
  obtain ⟨q, hq⟩ : ∃ q, Maps.has D (klK (ob, ix)) = q := ⟨_, rfl⟩
  rw [hq]
  clear hown
  go_enter Try.func31, Try.ntmps31
  go_wp2_with (first
    | (at_lookup; refine wpList_lookup_own_ok_int _ rfl _ _ 46 rfl 51 3 .i64 keyLawK Try.underlying46 Try.underlying3 (zeroK _) b n D rfl ho _ _ rfl hkey ?_; intro cc hat hwc; rw [hq])
    | fail)
  go_ret
  exact ⟨rfl, bX⟩
theorem fuC (q : Bool) (c : Int) (w : World) :
    Calls Try.prog 30 #[.bool q, .int .i64 c] w fun e w' => e = .returned (.int .i64 (if q then 0 else c)) ∧ w' = w := by
  cases q
  all_goals
    go_enter Try.func30, Try.ntmps30
    go_wp2
    go_ret
    exact ⟨rfl, rfl⟩

set_option maxRecDepth 100000 in
set_option maxHeartbeats 4000000 in
theorem allocC (b n : Nat) (D : DataW Unit) (L : List ShwD) (d : ShwD) (w : World) (hown : w.ownsMap Try.prog 51 pE b n D) (hn : n ≤ 1048576) (hM : MapIs D L) (hS : Srt L) (hd : d.wf) :
    Calls Try.prog 24 #[.map (some b), kA (keyD d), .int .i64 d.va] w fun e w' => ∃ D', e = .returned (.int .i64 (alcF L (keyD d))) ∧ w'.ownsMap Try.prog 51 pE b (n + 1) D' ∧ MapIs D' (alcL L d) ∧ w.grownBy w' (some b) := by
  have hx := keyD_wf hd
  have hkey := keyK _ hx
  have hval := plainElem_int (H := Unit) Try.underlying3 (a := d.va) hd.2.2
  have hHas := hM.hasEq hx
  have hsz := size_eq hown hM hS
  have hfin : hasL L (keyD d) = false → L.length ≠ 16 → MapIs (D.put (klK (keyD d)) (litV d)) (alcL L d) ∧ alcF L (keyD d) = 0 := fun h1 h2 => by
    unfold alcL alcF
    rw [h1, if_neg (by simp), if_neg h2, if_neg (by simp), if_neg h2]
    exact ⟨(hM.putNew hown.isMap hd (fun e he h' => by rw [hasL_iff.2 ⟨e, he, h'⟩] at h1; cases h1)).perm (insL_perm d L).symm, rfl⟩
  have hno : hasL L (keyD d) = true → alcL L d = L ∧ alcF L (keyD d) = 24 := fun h1 => by unfold alcL alcF; rw [h1]; exact ⟨rfl, rfl⟩
  have hfu : hasL L (keyD d) = false → L.length = 16 → alcL L d = L ∧ alcF L (keyD d) = 7 := fun h1 h2 => by unfold alcL alcF; rw [h1, if_neg (by simp), if_pos h2, if_neg (by simp), if_pos h2]; exact ⟨rfl, rfl⟩
  have HFIN : Hid (_ → _ → MapIs (D.put (klK (keyD d)) (litV d)) (alcL L d) ∧ alcF L (keyD d) = 0) := hfin
  have HNO : Hid (_ → alcL L d = L ∧ alcF L (keyD d) = 24) := hno
  have HFU : Hid (_ → _ → alcL L d = L ∧ alcF L (keyD d) = 7) := hfu
  have HM : Hid (MapIs D L) := hM
  have HO : Hid (∀ W, Below w.heap.size w W → W.ownsMap Try.prog 51 pE b n D) := fun W h => hown.kept (row := none) (grown_none h) (by simp)
  have HLEN : Hid (∀ W, Below w.heap.size w W → ∀ ty, (Builtin.len_ #[46] ty #[.map (some b)]).run Try.prog W = .ok (.int .i64 (L.length : Int)) W) := fun W h ty => by rw [← hsz]; exact (HO.out W h).len Try.underlying46 ty
  have HU : Hid (∀ W, Below w.heap.size w W → ∃ w3, (Instr.mapUpdate 46 (.map (some b)) (kA (keyD d)) (.int .i64 d.va)).run Try.prog W = .ok () w3 ∧ w3.ownsMap Try.prog 51 pE b (n + 1) (D.put (klK (keyD d)) (litV d)) ∧ W.grownBy w3 (some b)) := fun W h => (HO.out W h).update keyLawK Try.underlying46 (by unfold maxLen; omega) hkey hval
  have HC : Hid (∀ W, Below w.heap.size w W → Calls Try.prog 31 #[.map (some b), kA (keyD d)] W fun e w' => e = .returned (.bool (hasL L (keyD d))) ∧ Below W.heap.size W w') := fun W h => by rw [← hHas]; exact hasC b n D _ W (HO.out W h) hx
  clear hfin hno hfu hM hown hHas hsz hkey hval hx hd hS
  obtain ⟨ob, ix, va⟩ := d
  simp only [keyD] at *
  obtain ⟨q, hq⟩ : ∃ q, hasL L (ob, ix) = q := ⟨_, rfl⟩
  rw [hq] at HC HFIN HNO HFU
  obtain ⟨F, hF⟩ : ∃ F, alcF L (ob, ix) = F := ⟨_, rfl⟩
  obtain ⟨L', hL⟩ : ∃ L', alcL L ⟨ob, ix, va⟩ = L' := ⟨_, rfl⟩
  rw [hF, hL] at HFIN HNO HFU
  rw [hF, hL]
  clear hF hL hq
  have bX := grown1' w (.cells #[.int .i64 ob, .int .i64 ix] 51)
  have lX := Lies.new w #[.int .i64 ob, .int .i64 ix] 51
  go_enter Try.func24, Try.ntmps24
  go_wp2_with fail
  obtain ⟨W0, hW0⟩ : ∃ W0, w.alloc (.cells #[.int .i64 ob, .int .i64 ix] 51) = W0 := ⟨_, rfl⟩
  rw [hW0] at bX lX ⊢
  clear hW0
  refine (HC.out W0 bX).mono ?_
  rintro e w2 ⟨rfl, hb2⟩
  have b2 := bX.trans (hb2.mono bX.size)
  have l2 := lX.below hb2 lX.lt
  have y0 := l2.cell (j := 0) rfl
  have y1 := l2.cell (j := 1) rfl
  have hlen := HLEN.out w2 b2
  have HB2 : Hid (Below w.heap.size w w2) := b2
  clear hb2 bX lX l2 b2 HC HLEN
  cases q with
  | true =>
    obtain ⟨rfl, rfl⟩ := HNO.out rfl
    go_wp2_with fail
    go_ret
    exact ⟨D, rfl, (HO.out w2 HB2.out).mono (Nat.le_succ n), HM.out, grown_to HB2.out⟩
  | false =>
    by_cases h16 : L.length = 16
    · obtain ⟨rfl, rfl⟩ := HFU.out rfl h16
      rw [h16] at hlen
      go_wp2_with fail
      go_ret
      exact ⟨D, rfl, (HO.out w2 HB2.out).mono (Nat.le_succ n), HM.out, grown_to HB2.out⟩
    · obtain ⟨e1, rfl⟩ := HFIN.out rfl h16
      have HM1 : Hid (MapIs _ _) := e1
      have hne : ((L.length : Int) == 16) = false := by rw [beq_eq_false_iff_ne]; omega
      obtain ⟨w3, hrun, ho3, hg3⟩ := HU.out w2 HB2.out
      have HO3 : Hid (w3.ownsMap _ _ _ _ _ _) := ho3
      have HG3 : Hid (w.grownBy w3 (some b)) := grown_but HB2.out hg3
      clear e1 ho3 hg3
      go_wp2_with fail
      go_ret
      exact ⟨_, rfl, HO3.out, HM1.out, HG3.out⟩

set_option maxRecDepth 100000 in
set_option maxHeartbeats 4000000 in
theorem putC (b n : Nat) (D : DataW Unit) (L : List ShwD) (d : ShwD) (w : World) (hown : w.ownsMap Try.prog 51 pE b n D) (hn : n ≤ 1048576) (hM : MapIs D L) (hd : d.wf) :
    Calls Try.prog 29 #[.map (some b), kA (keyD d), .int .i64 d.va] w fun e w' => ∃ D', e = .returned (.int .i64 (putF L (keyD d))) ∧ w'.ownsMap Try.prog 51 pE b (n + 1) D' ∧ MapIs D' (putL L d) ∧ w.grownBy w' (some b) := by
  have hx := keyD_wf hd
  have hkey := keyK _ hx
  have hval := plainElem_int (H := Unit) Try.underlying3 (a := d.va) hd.2.2
  have hHas := hM.hasEq hx
  have hfin : hasL L (keyD d) = true → MapIs (D.put (klK (keyD d)) (litV d)) (putL L d) ∧ putF L (keyD d) = 0 := fun h1 => by
    unfold putL putF
    rw [if_pos h1, if_pos h1]
    exact ⟨hM.putOld hown.isMap hd (hasL_iff.1 h1), rfl⟩
  have hno : hasL L (keyD d) = false → putL L d = L ∧ putF L (keyD d) = 5 := fun h1 => by unfold putL putF; rw [h1]; exact ⟨rfl, rfl⟩
  have HFIN : Hid (_ → MapIs (D.put (klK (keyD d)) (litV d)) (putL L d) ∧ putF L (keyD d) = 0) := hfin
  have HNO : Hid (_ → putL L d = L ∧ putF L (keyD d) = 5) := hno
  have HM : Hid (MapIs D L) := hM
  have HO : Hid (∀ W, Below w.heap.size w W → W.ownsMap Try.prog 51 pE b n D) := fun W h => hown.kept (row := none) (grown_none h) (by simp)
  have HU : Hid (∀ W, Below w.heap.size w W → ∃ w3, (Instr.mapUpdate 46 (.map (some b)) (kA (keyD d)) (.int .i64 d.va)).run Try.prog W = .ok () w3 ∧ w3.ownsMap Try.prog 51 pE b (n + 1) (D.put (klK (keyD d)) (litV d)) ∧ W.grownBy w3 (some b)) := fun W h => (HO.out W h).update keyLawK Try.underlying46 (by unfold maxLen; omega) hkey hval
  have HC : Hid (∀ W, Below w.heap.size w W → Calls Try.prog 31 #[.map (some b), kA (keyD d)] W fun e w' => e = .returned (.bool (hasL L (keyD d))) ∧ Below W.heap.size W w') := fun W h => by rw [← hHas]; exact hasC b n D _ W (HO.out W h) hx
  clear hfin hno hM hown hHas hkey hval hx hd
  obtain ⟨ob, ix, va⟩ := d
  simp only [keyD] at *
  obtain ⟨q, hq⟩ : ∃ q, hasL L (ob, ix) = q := ⟨_, rfl⟩
  rw [hq] at HC HFIN HNO
  obtain ⟨F, hF⟩ : ∃ F, putF L (ob, ix) = F := ⟨_, rfl⟩
  obtain ⟨L', hL⟩ : ∃ L', putL L ⟨ob, ix, va⟩ = L' := ⟨_, rfl⟩
  rw [hF, hL] at HFIN HNO
  rw [hF, hL]
  clear hF hL hq
  have bX := grown1' w (.cells #[.int .i64 ob, .int .i64 ix] 51)
  have lX := Lies.new w #[.int .i64 ob, .int .i64 ix] 51
  go_enter Try.func29, Try.ntmps29
  go_wp2_with fail
  obtain ⟨W0, hW0⟩ : ∃ W0, w.alloc (.cells #[.int .i64 ob, .int .i64 ix] 51) = W0 := ⟨_, rfl⟩
  rw [hW0] at bX lX ⊢
  clear hW0
  refine (HC.out W0 bX).mono ?_
  rintro e w2 ⟨rfl, hb2⟩
  have b2 := bX.trans (hb2.mono bX.size)
  have l2 := lX.below hb2 lX.lt
  have y0 := l2.cell (j := 0) rfl
  have y1 := l2.cell (j := 1) rfl
  have HB2 : Hid (Below w.heap.size w w2) := b2
  clear hb2 bX lX l2 b2 HC
  cases q with
  | false =>
    obtain ⟨rfl, rfl⟩ := HNO.out rfl
    go_wp2_with fail
    go_ret
    exact ⟨D, rfl, (HO.out w2 HB2.out).mono (Nat.le_succ n), HM.out, grown_to HB2.out⟩
  | true =>
    obtain ⟨e1, rfl⟩ := HFIN.out rfl
    have HM1 : Hid (MapIs _ _) := e1
    obtain ⟨w3, hrun, ho3, hg3⟩ := HU.out w2 HB2.out
    have HO3 : Hid (w3.ownsMap _ _ _ _ _ _) := ho3
    have HG3 : Hid (w.grownBy w3 (some b)) := grown_but HB2.out hg3
    clear e1 ho3 hg3
    go_wp2_with fail
    go_ret
    exact ⟨_, rfl, HO3.out, HM1.out, HG3.out⟩

set_option maxRecDepth 100000 in
set_option maxHeartbeats 4000000 in
theorem freeC (b n : Nat) (D : DataW Unit) (L : List ShwD) (x : Int × Int) (w : World) (hown : w.ownsMap Try.prog 51 pE b n D) (hM : MapIs D L) (hx : wfK x) :
    Calls Try.prog 32 #[.map (some b), kA x] w fun e w' => ∃ D', e = .returned (.int .i64 (putF L x)) ∧ w'.ownsMap Try.prog 51 pE b n D' ∧ MapIs D' (freL L x) ∧ w.grownBy w' (some b) := by
  have hkey := keyK _ hx
  have hHas := hM.hasEq hx
  have hfin : hasL L x = true → MapIs (D.del (klK x)) (freL L x) ∧ putF L x = 0 := fun h1 => by
    unfold putF
    rw [if_pos h1]
    exact ⟨hM.del hx, rfl⟩
  have hno : hasL L x = false → freL L x = L ∧ putF L x = 5 := fun h1 => by unfold putF; rw [h1]; exact ⟨freL_none h1, rfl⟩
  have HFIN : Hid (_ → MapIs (D.del (klK x)) (freL L x) ∧ putF L x = 0) := hfin
  have HNO : Hid (_ → freL L x = L ∧ putF L x = 5) := hno
  have HM : Hid (MapIs D L) := hM
  have HO : Hid (∀ W, Below w.heap.size w W → W.ownsMap Try.prog 51 pE b n D) := fun W h => hown.kept (row := none) (grown_none h) (by simp)
  have HU : Hid (∀ W, Below w.heap.size w W → ∀ ty, ∃ w3, (Builtin.delete_ #[46, 51] ty #[.map (some b), kA x]).run Try.prog W = .ok (.tuple #[]) w3 ∧ w3.ownsMap Try.prog 51 pE b n (D.del (klK x)) ∧ W.grownBy w3 (some b)) := fun W h ty => by
    obtain ⟨w3, h1, h2, h3⟩ := (HO.out W h).drop keyLawK Try.underlying46 hkey ty
    exact ⟨w3, h1, h2, h3.grown⟩
  have HC : Hid (∀ W, Below w.heap.size w W → Calls Try.prog 31 #[.map (some b), kA x] W fun e w' => e = .returned (.bool (hasL L x)) ∧ Below W.heap.size W w') := fun W h => by rw [← hHas]; exact hasC b n D _ W (HO.out W h) hx
  clear hfin hno hM hown hHas hkey hx
  obtain ⟨ob, ix⟩ := x
  obtain ⟨q, hq⟩ : ∃ q, hasL L (ob, ix) = q := ⟨_, rfl⟩
  rw [hq] at HC HFIN HNO
  obtain ⟨F, hF⟩ : ∃ F, putF L (ob, ix) = F := ⟨_, rfl⟩
  obtain ⟨L', hL⟩ : ∃ L', freL L (ob, ix) = L' := ⟨_, rfl⟩
  rw [hF, hL] at HFIN HNO
  rw [hF, hL]
  clear hF hL hq
  have bX := grown1' w (.cells #[.int .i64 ob, .int .i64 ix] 51)
  have lX := Lies.new w #[.int .i64 ob, .int .i64 ix] 51
  go_enter Try.func32, Try.ntmps32
  go_wp2_with fail
  obtain ⟨W0, hW0⟩ : ∃ W0, w.alloc (.cells #[.int .i64 ob, .int .i64 ix] 51) = W0 := ⟨_, rfl⟩
  rw [hW0] at bX lX ⊢
  clear hW0
  refine (HC.out W0 bX).mono ?_
  rintro e w2 ⟨rfl, hb2⟩
  have b2 := bX.trans (hb2.mono bX.size)
  have l2 := lX.below hb2 lX.lt
  have y0 := l2.cell (j := 0) rfl
  have y1 := l2.cell (j := 1) rfl
  have HB2 : Hid (Below w.heap.size w w2) := b2
  clear hb2 bX lX l2 b2 HC
  cases q with
  | false =>
    obtain ⟨rfl, rfl⟩ := HNO.out rfl
    go_wp2_with fail
    go_ret
    exact ⟨D, rfl, HO.out w2 HB2.out, HM.out, grown_to HB2.out⟩
  | true =>
    obtain ⟨e1, rfl⟩ := HFIN.out rfl
    have HM1 : Hid (MapIs _ _) := e1
    obtain ⟨w3, hrun, ho3, hg3⟩ := HU.out w2 HB2.out 0
    have HO3 : Hid (w3.ownsMap _ _ _ _ _ _) := ho3
    have HG3 : Hid (w.grownBy w3 (some b)) := grown_but HB2.out hg3
    clear e1 ho3 hg3
    go_wp2_with fail
    go_ret
    exact ⟨_, rfl, HO3.out, HM1.out, HG3.out⟩
end Go.Proofs.Ytibepggakjfbcaa
