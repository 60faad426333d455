/- Shadow variables: maps.DeleteFunc, freeId of the program's map. -/
import Derived.Test.YtibepggakjfbcaaOpsC
import Derived.Lib.SlMapFilter
import Derived.Maps.Ext
import Derived.Maps.RangeWalk
import Derived.Laws.IdiomRangeMap
import Derived.Deep.LoopGhost
namespace Go.Proofs.Ytibepggakjfbcaa
open Go Go.RowKit Go.Maps
set_option linter.unusedVariables false

noncomputable def pdI (id : Int) (kl : Lit) (_ : DataW Unit) : Bool := decide ((unK kl).2 = id)
def fidL (L : List ShwD) (id : Int) : List ShwD := L.filter fun d => d.ix ≠ id
theorem fidL_srt {L : List ShwD} {id : Int} (h : Srt L) : Srt (fidL L id) := h.filter _
theorem MapIs.delF {w : World} {R : Value → Option (DataW Unit × List MemPlace)} {b n : Nat} {D : DataW Unit} {L : List ShwD} (hown : w.ownsMap Try.prog 51 R b n D) (h : MapIs D L) (id : Int) : MapIs (Lib.deleteFuncD (pdI id) D) (fidL L id) := by
  obtain ⟨es, rfl, hpw, hkl⟩ := hown.entries keyLawK
  have hmem : ∀ x, wfK x → (Maps.has (Lib.deleteFuncD (pdI id) (.map es)) (klK x) = true ↔ Maps.has (.map es) (klK x) = true ∧ x.2 ≠ id) := fun x hx => by
    constructor
    · intro h1
      obtain ⟨p, hp, hs⟩ := List.any_eq_true.1 h1
      obtain ⟨hp1, hp2⟩ := List.mem_filter.1 hp
      have e := WideAt.sameKey_eq hs
      refine ⟨List.any_eq_true.2 ⟨p, hp1, hs⟩, ?_⟩
      rw [e] at hp2
      simpa [pdI, unK_klK hx] using hp2
    · rintro ⟨h1, h2⟩
      obtain ⟨p, hp, hs⟩ := List.any_eq_true.1 h1
      have e := WideAt.sameKey_eq hs
      exact List.any_eq_true.2 ⟨p, List.mem_filter.2 ⟨hp, by rw [e]; simpa [pdI, unK_klK hx] using h2⟩, hs⟩
  refine ⟨fun d hd => h.wf d (List.mem_filter.1 hd).1, fun x hx => ?_, fun d hd z => ?_⟩
  · rw [hmem x hx, h.has x hx]
    constructor
    · rintro ⟨⟨d, hd, rfl⟩, h2⟩
      exact ⟨d, List.mem_filter.2 ⟨hd, by simpa [keyD] using h2⟩, rfl⟩
    · rintro ⟨d, hd, rfl⟩
      obtain ⟨h1, h2⟩ := List.mem_filter.1 hd
      exact ⟨⟨d, h1, rfl⟩, by simpa [keyD] using h2⟩
  · obtain ⟨h1, h2⟩ := List.mem_filter.1 hd
    have hx := keyD_wf (h.wf d h1)
    have hh : Maps.has (.map es) (klK (keyD d)) = true := (h.has _ hx).2 ⟨d, h1, rfl⟩
    obtain ⟨p, hp, hs⟩ := List.any_eq_true.1 hh
    have e := WideAt.sameKey_eq hs
    have hm : (klK (keyD d), p.2) ∈ es := by rw [← e]; exact hp
    have hv : p.2 = .lit (.int .i64 d.va) := (WideAt.atKey_mem z (klK_key _) hpw hm).symm.trans (h.at_ d h1 z)
    have hm2 : (klK (keyD d), p.2) ∈ es.filter fun p => !pdI id p.1 p.2 := List.mem_filter.2 ⟨hm, by
      have h3 : d.ix ≠ id := by simpa using h2
      show (!pdI id (klK (keyD d)) p.2) = true
      unfold pdI
      rw [unK_klK hx, decide_eq_false (show ¬ (keyD d).2 = id from h3)]
      rfl⟩
    exact (WideAt.atKey_mem z (klK_key _) (hpw.filter _) hm2).trans hv
set_option maxHeartbeats 1000000 in
theorem closI (x : Int × Int) (v : Value) (id : Int) (B : Nat) (W : World) (hB : W.cell? ⟨B, 0, none⟩ = some (.int .i64 id)) (hl : B < W.heap.size) :
    Calls Try.prog 51 #[kA x, v, .pointer (some ⟨B, 0, none⟩)] W fun e w' => e = .returned (.bool (decide (x.2 = id))) ∧ Below W.heap.size W w' := by
  obtain ⟨ob, ix⟩ := x
  have hB2 := ((grown1' W (.cells #[.int .i64 ob, .int .i64 ix] 51)).cell (p := ⟨B, 0, none⟩) hl).trans hB
  by_cases h : ix = id
  · subst h
    go_enter Try.func51, Try.ntmps51
    go_wp2_with fail
    go_ret
    exact ⟨by simp, grown1' _ _⟩
  · have hne : (ix == id) = false := by rw [beq_eq_false_iff_ne]; exact h
    go_enter Try.func51, Try.ntmps51
    go_wp2_with fail
    go_ret
    exact ⟨by simp [h], grown1' _ _⟩

set_option maxHeartbeats 4000000 in
set_option maxRecDepth 100000 in
theorem delC (id : Int) (B b n : Nat) (D : DataW Unit) (w : World) (hown : w.ownsMap Try.prog 51 pE b n D) (hB : w.cell? ⟨B, 0, none⟩ = some (.int .i64 id)) (hl : B < w.heap.size) (hne : B ≠ b) :
    Calls Try.prog 50 #[.map (some b), .func (.func 51) #[] #[.pointer (some ⟨B, 0, none⟩)]] w fun e w' => e = .returned (.tuple #[]) ∧ w'.ownsMap Try.prog 51 pE b n (Lib.deleteFuncD (pdI id) D) ∧ w.grownBy w' (some b) := by
  obtain ⟨es0, rfl, hap, hkeys⟩ := hown.entries keyLawK
  have eg : ∀ args w, (callFunc 51 args).run Try.prog w = .ok (.enter 51 args) w := enters_of Try.func51 (by kernel_rfl) rfl
  have HD : Hid (∀ (W : World) (x : Int × Int) (v : Value), wfK x → w.grownBy W (some b) → Calls Try.prog 51 #[kA x, v, .pointer (some ⟨B, 0, none⟩)] W fun e w' => e = .returned (.bool (pdI id (klK x) (.nil))) ∧ Below W.heap.size W w') := by
    intro W x v hx hg
    have : pdI id (klK x) (.nil) = decide (x.2 = id) := by unfold pdI; rw [unK_klK hx]
    rw [this]
    exact closI x v id B W ((hg.cell hB (by simpa using hne)).trans rfl) (Nat.lt_of_lt_of_le hl hg.size)
  go_enter Try.func50, Try.ntmps50
  go_wp2_with (first
    | (at_range; refine wpList_range_own _ rfl _ 46 rfl 51 3 keyLawK Try.underlying46 pE b n _ rfl hown ?_; intro w0 hrg0 hg0 hs0)
    | go_in)
  go_frame
  go_loopw [8] (fun _ wr => ∃ (left : Lit → Bool) (cnt : Nat), wr.ranges Try.prog 51 pE b w.heap.size n (Fk (pdI id) es0 left) left cnt ∧ w.grownBy wr (some b))
    (fun _ wr => wr.rangeLeft b w.heap.size)
  case atStart => exact ⟨_, _, by rw [Fk_start hkeys]; exact hrg0, hg0.but _⟩
  case round =>
    obtain ⟨left, cnt, hrg, hgw⟩ := hrel
    go_wp2_with (first
      | (at_next; refine wpList_next_ranges _ rfl _ rfl 51 keyLawK pE kA (fun v => v) (fun key _ hk => by obtain ⟨x, hx, _⟩ := keyK_inv hk; exact ⟨x, hx⟩) (fun v _ _ => ⟨v, rfl⟩) b w.heap.size n _ _ _ rfl hrg ?_ ?_)
      | go_in)
    · intro _ hl0
      go_wp2
      go_end0
      exact ⟨rfl, by rw [← Fk_end hl0]; exact hrg.owns, hgw⟩
    · intro xa xb c kl yd yp w1 cnt1 hkey hlx hv hat hrg1 hlt hg1 hs1 hen
      obtain ⟨x, ex, rfl, hwx⟩ := keyK_inv hkey
      obtain ⟨rfl, rfl⟩ : xa = x.1 ∧ xb = x.2 := by simpa using ex
      have hgw1 := hgw.andThen hg1 (fun j hj => by cases hj; exact Or.inl (Nat.le_refl _))
      have hgW : w1.grownBy (w1.alloc (.cells #[.int .i64 x.1, .int .i64 x.2] 51)) none := World.grownBy_alloc _ _ _
      have hrgW := hrg1.kept hgW (by simp) (by simp)
      have hgwW := hgw1.andThen hgW (fun j hj => by cases hj)
      have f0 : (w1.alloc (.cells #[.int .i64 x.1, .int .i64 x.2] 51)).cell? ⟨w1.heap.size, 0, none⟩ = some (.int .i64 x.1) := by simp
      have f1 : (w1.alloc (.cells #[.int .i64 x.1, .int .i64 x.2] 51)).cell? ⟨w1.heap.size, 1, none⟩ = some (.int .i64 x.2) := by simp
      have hlW : w1.heap.size < (w1.alloc (.cells #[.int .i64 x.1, .int .i64 x.2] 51)).heap.size := by simp
      obtain ⟨W, hW⟩ : ∃ W, w1.alloc (.cells #[.int .i64 x.1, .int .i64 x.2] 51) = W := ⟨_, rfl⟩
      rw [hW] at hgW hrgW hgwW f0 f1 hlW
      have hc := HD.out W x c hwx hgwW
      have hpd : pdI id (klK x) yd = pdI id (klK x) .nil := rfl
      have hbl := hrg1.owns.lt
      have hrl := hrg1.lt
      clear hs1
      cases hp : pdI id (klK x) (.nil) <;> rw [hp] at hc hpd
      · have HC : Hid (Calls _ _ _ _ _) := hc
        clear hc
        go_wp2_with (first
          | (go_at_fn 51; refine HC.out.mono ?_; rintro e w2 ⟨rfl, hb2⟩)
          | go_in)
        have hg2 := grown_none hb2
        have hrg2 := hrgW.kept hg2 (by simp) (by simp)
        go_roundw
        case rel => exact ⟨_, cnt1, by rw [← Fk_stays hap (klK_key x) hlx hpd hat]; exact hrg2, hgwW.andThen hg2 (fun j hj => by cases hj)⟩
        case measure => rw [hrg2.left_eq, hrg.left_eq]; exact hlt
      · have HC : Hid (Calls _ _ _ _ _) := hc
        clear hc
        go_wp2_with (first
          | (go_at_fn 51; refine HC.out.mono ?_; rintro e w2 ⟨rfl, hb2⟩; have hg2 := grown_none hb2; have hrg2 := hrgW.kept hg2 (by simp) (by simp); have g0 := (hb2.cell (p := ⟨w1.heap.size, 0, none⟩) hlW).trans f0; have g1 := (hb2.cell (p := ⟨w1.heap.size, 1, none⟩) hlW).trans f1)
          | (at_delete; refine wpList_delete_ranges _ rfl _ _ 46 51 rfl 3 keyLawK Try.underlying46 pE b w.heap.size n _ _ _ rfl hrg2 _ _ rfl hkey ?_; intro w3 cnt3 hrg3 hle hturn; go_frame)
          | go_in)
        rw [strike_twice] at hrg3
        go_roundw
        case rel => exact ⟨_, cnt3, by rw [← Fk_struck hap (klK_key x) hlx hpd hat]; exact hrg3, (hgwW.andThen hg2 (fun j hj => by cases hj)).andThen hturn.grown (fun j hj => by cases hj; exact Or.inr rfl)⟩
        case measure => rw [hrg3.left_eq, hrg.left_eq]; omega

set_option maxRecDepth 100000 in
set_option maxHeartbeats 4000000 in
theorem freeIdC (b n : Nat) (D : DataW Unit) (L : List ShwD) (id : Int) (w : World) (hown : w.ownsMap Try.prog 51 pE b n D) (hM : MapIs D L) (hS : Srt L) (hLn : L.length ≤ 1048576) :
    Calls Try.prog 36 #[.map (some b), .int .i64 id] w fun e w' => ∃ D', e = .returned (.int .i64 ((L.length : Int) - (fidL L id).length)) ∧ w'.ownsMap Try.prog 51 pE b n D' ∧ MapIs D' (fidL L id) ∧ w.grownBy w' (some b) := by
  have hbl := hown.lt
  have bX := grown1' w (.cells #[.int .i64 id] 3)
  have hM2 := hM.delF hown id
  have hS2 : Srt (fidL L id) := fidL_srt hS
  have hl2 : (fidL L id).length ≤ L.length := List.length_filter_le _ _
  have ho1 := hown.alloc (.cells #[.int .i64 id] 3)
  have DC := delC id w.heap.size b n D (w.alloc (.cells #[.int .i64 id] 3)) ho1 (by simp) (by simp) (by omega)
  have len1 : ∀ ty, (Builtin.len_ #[46] ty #[.map (some b)]).run Try.prog (w.alloc (.cells #[.int .i64 id] 3)) = .ok (.int .i64 (L.length : Int)) (w.alloc (.cells #[.int .i64 id] 3)) := fun ty => by rw [← size_eq hown hM hS]; exact ho1.len Try.underlying46 ty
  have HL2 : Hid (∀ W, W.ownsMap Try.prog 51 pE b n (Lib.deleteFuncD (pdI id) D) → ∀ ty, (Builtin.len_ #[46] ty #[.map (some b)]).run Try.prog W = .ok (.int .i64 ((fidL L id).length : Int)) W) := fun W h ty => by rw [← size_eq h hM2 hS2]; exact h.len Try.underlying46 ty
  have HDC : Hid (Calls _ _ _ _ _) := DC
  have HM2 : Hid (MapIs _ _) := hM2
  obtain ⟨m, hm⟩ : ∃ m, (fidL L id).length = m := ⟨_, rfl⟩
  rw [hm] at HL2 hl2 ⊢
  have hsub : IntKind.i64.wrap ((L.length : Int) - (m : Int)) = (L.length : Int) - m := by rw [IntKind.wrap_i64]; omega
  clear DC hM hS hM2 hS2 hown ho1 hm
  go_enter Try.func36, Try.ntmps36
  go_wp2_with fail
  refine HDC.out.mono ?_
  rintro e w2 ⟨rfl, ho2, hg2⟩
  have len2 := HL2.out w2 ho2
  have HO2 : Hid (w2.ownsMap _ _ _ _ _ _) := ho2
  have HG2 : Hid (w.grownBy w2 (some b)) := grown_but bX hg2
  clear ho2 hg2 len1
  go_wp2_with fail
  go_ret
  exact ⟨_, rfl, HO2.out, HM2.out, HG2.out⟩
end Go.Proofs.Ytibepggakjfbcaa
