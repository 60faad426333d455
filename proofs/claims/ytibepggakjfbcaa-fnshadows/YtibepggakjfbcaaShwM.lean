/- Shadow variables as a map: plain. -/
import Derived.Test.YtibepggakjfbcaaKitC
import Derived.Test.YtibepggakjfbcaaShwP
namespace Go.Proofs.Ytibepggakjfbcaa
open Go Go.RowKit Go.Maps
set_option linter.unusedVariables false

theorem keyD_wf {d : ShwD} (h : d.wf) : wfK (keyD d) := ⟨h.1, h.2.1⟩
/-- The map has just these variables. -/
structure MapIs (D : DataW Unit) (L : List ShwD) : Prop where
  wf : ∀ d ∈ L, d.wf
  has : ∀ x, wfK x → (has D (klK x) = true ↔ ∃ d ∈ L, keyD d = x)
  at_ : ∀ d ∈ L, ∀ z, D.atKey (klK (keyD d)) z = .lit (.int .i64 d.va)
/-- A list in its order. -/
def Srt (L : List ShwD) : Prop := L.Pairwise fun a b => ltK (keyD a) (keyD b)
abbrev litV (d : ShwD) : DataW Unit := .lit (.int .i64 d.va)
variable {D : DataW Unit} {L : List ShwD}
theorem MapIs.empty : MapIs (.map []) [] := ⟨by simp, fun x _ => by simp [Maps.has_eq], by simp⟩
theorem MapIs.perm {L' : List ShwD} (h : MapIs D L) (hp : L.Perm L') : MapIs D L' := ⟨fun d hd => h.wf d (hp.mem_iff.2 hd), fun x hx => (h.has x hx).trans ⟨fun ⟨d, a, b⟩ => ⟨d, hp.mem_iff.1 a, b⟩, fun ⟨d, a, b⟩ => ⟨d, hp.mem_iff.2 a, b⟩⟩, fun d hd => h.at_ d (hp.mem_iff.2 hd)⟩
theorem MapIs.putNew (h : MapIs D L) (hD : IsMap D) {d : ShwD} (hd : d.wf) (hn : ∀ e ∈ L, keyD e ≠ keyD d) : MapIs (D.put (klK (keyD d)) (litV d)) (d :: L) := by
  have hk := keyD_wf hd
  refine ⟨fun e he => ?_, fun x hx => ?_, fun e he z => ?_⟩
  · rcases List.mem_cons.1 he with rfl | h'
    · exact hd
    · exact h.wf e h'
  · by_cases e : x = keyD d
    · subst e
      rw [has_put_same hD (klK_key _)]
      exact ⟨fun _ => ⟨d, List.mem_cons_self, rfl⟩, fun _ => rfl⟩
    · rw [has_put_other (fun h' => e (klK_inj hx hk h')), h.has x hx]
      constructor
      · rintro ⟨f, hf, rfl⟩; exact ⟨f, List.mem_cons_of_mem _ hf, rfl⟩
      · rintro ⟨f, hf, rfl⟩
        rcases List.mem_cons.1 hf with rfl | h'
        · exact absurd rfl e
        · exact ⟨f, h', rfl⟩
  · rcases List.mem_cons.1 he with rfl | h'
    · exact atKey_put_same hD (klK_key _) _ _
    · rw [atKey_put_other (fun h'' => hn e h' (klK_inj (keyD_wf (h.wf e h')) hk h''))]
      exact h.at_ e h' z
/-- The list with another value at a key. -/
def setL (d : ShwD) (L : List ShwD) : List ShwD := L.map fun e => if keyD e = keyD d then d else e
theorem MapIs.putOld (h : MapIs D L) (hD : IsMap D) {d : ShwD} (hd : d.wf) (hh : ∃ e ∈ L, keyD e = keyD d) : MapIs (D.put (klK (keyD d)) (litV d)) (setL d L) := by
  have hk := keyD_wf hd
  refine ⟨fun e he => ?_, fun x hx => ?_, fun e he z => ?_⟩
  · obtain ⟨f, hf, rfl⟩ := List.mem_map.1 he
    split
    · exact hd
    · exact h.wf f hf
  · by_cases e : x = keyD d
    · subst e
      rw [has_put_same hD (klK_key _)]
      obtain ⟨f, hf, hfe⟩ := hh
      exact ⟨fun _ => ⟨d, List.mem_map.2 ⟨f, hf, by simp [hfe]⟩, rfl⟩, fun _ => rfl⟩
    · rw [has_put_other (fun h' => e (klK_inj hx hk h')), h.has x hx]
      constructor
      · rintro ⟨f, hf, rfl⟩; exact ⟨f, List.mem_map.2 ⟨f, hf, by rw [if_neg e]⟩, rfl⟩
      · rintro ⟨f, hf, rfl⟩
        obtain ⟨g, hg, rfl⟩ := List.mem_map.1 hf
        by_cases e2 : keyD g = keyD d
        · rw [if_pos e2] at e; exact absurd rfl e
        · rw [if_neg e2]; exact ⟨g, hg, rfl⟩
  · obtain ⟨f, hf, rfl⟩ := List.mem_map.1 he
    by_cases e2 : keyD f = keyD d
    · rw [if_pos e2]
      exact atKey_put_same hD (klK_key _) _ _
    · rw [if_neg e2, atKey_put_other (fun h'' => e2 (klK_inj (keyD_wf (h.wf f hf)) hk h''))]
      exact h.at_ f hf z
theorem setL_srt {d : ShwD} (h : Srt L) : Srt (setL d L) := by
  unfold Srt setL
  rw [List.pairwise_map]
  refine h.imp ?_
  intro a b hab
  by_cases e : keyD a = keyD d
  · rw [if_pos e]
    by_cases e2 : keyD b = keyD d
    · rw [e, e2] at hab; exact absurd hab (ltK_irrefl _)
    · rw [if_neg e2, ← e]; exact hab
  · rw [if_neg e]
    by_cases e2 : keyD b = keyD d
    · rw [if_pos e2, ← e2]; exact hab
    · rw [if_neg e2]; exact hab
theorem MapIs.del (h : MapIs D L) {x : Int × Int} (hx : wfK x) : MapIs (D.del (klK x)) (L.filter fun e => keyD e ≠ x) := by
  refine ⟨fun e he => h.wf e (List.mem_filter.1 he).1, fun y hy => ?_, fun e he z => ?_⟩
  · by_cases e : y = x
    · subst e
      rw [has_del_same]
      constructor
      · intro h'; cases h'
      · rintro ⟨f, hf, rfl⟩
        have := (List.mem_filter.1 hf).2
        simp at this
    · rw [has_del_other (fun h' => e (klK_inj hy hx h')), h.has y hy]
      constructor
      · rintro ⟨f, hf, rfl⟩; exact ⟨f, List.mem_filter.2 ⟨hf, by simpa using e⟩, rfl⟩
      · rintro ⟨f, hf, rfl⟩; exact ⟨f, (List.mem_filter.1 hf).1, rfl⟩
  · obtain ⟨hf, hne⟩ := List.mem_filter.1 he
    have hne' : keyD e ≠ x := by simpa using hne
    rw [atKey_del_other (fun h'' => hne' (klK_inj (keyD_wf (h.wf e hf)) hx h''))]
    exact h.at_ e hf z
theorem Srt.nodup (h : Srt L) : (L.map keyD).Nodup := by
  unfold List.Nodup
  rw [List.pairwise_map]
  refine h.imp ?_
  intro a b hab e
  rw [e] at hab
  exact ltK_irrefl _ hab
/-- The keys in their order are those of the list. -/
theorem keys_eq (h : MapIs D L) (hS : Srt L) {ts : List (Int × Int)} (hA : AllK D ts) (hP : ts.Pairwise ltK) : ts = L.map keyD := by
  have hp : ts.Perm (L.map keyD) := by
    refine (List.perm_ext_iff_of_nodup hA.1 hS.nodup).2 fun x => ?_
    constructor
    · intro hx
      obtain ⟨d, hd, rfl⟩ := (h.has x (hA.2.1 x hx)).1 ((hA.2.2 x (hA.2.1 x hx)).1 hx)
      exact List.mem_map.2 ⟨d, hd, rfl⟩
    · intro hx
      obtain ⟨d, hd, rfl⟩ := List.mem_map.1 hx
      have hw := keyD_wf (h.wf d hd)
      exact (hA.2.2 _ hw).2 ((h.has _ hw).2 ⟨d, hd, rfl⟩)
  refine List.Perm.eq_of_pairwise (le := ltK) (fun a b _ _ h1 h2 => (ltK_asymm h1 h2).elim) hP ?_ hp
  rw [List.pairwise_map]
  exact hS
/-- A key's two numbers. -/
noncomputable def unK (l : Lit) : Int × Int := by
  classical
  exact if h : ∃ x, wfK x ∧ klK x = l then Classical.choose h else (0, 0)
theorem unK_klK {x : Int × Int} (hx : wfK x) : unK (klK x) = x := by
  have h : ∃ y, wfK y ∧ klK y = klK x := ⟨x, hx, rfl⟩
  unfold unK
  rw [dif_pos h]
  obtain ⟨h1, h2⟩ := Classical.choose_spec h
  exact klK_inj h1 hx h2
theorem size_eq {w : World} {R : Value → Option (DataW Unit × List MemPlace)} {b n : Nat} (hown : w.ownsMap Try.prog 51 R b n D) (h : MapIs D L) (hS : Srt L) : size D = L.length := by
  obtain ⟨es, rfl, hpw, _⟩ := hown.entries keyLawK
  obtain ⟨es', hD', hko⟩ := hown.keysOf
  obtain rfl : es = es' := by simpa using hD'
  have hk : ∀ p ∈ es, ∃ x, wfK x ∧ p.1 = klK x := fun p hp => by
    obtain ⟨v, hv⟩ := hko p hp
    obtain ⟨x, _, hx, hw⟩ := keyK_inv hv
    exact ⟨x, hw, hx⟩
  have hp : (es.map fun p => unK p.1).Perm (L.map keyD) := by
    refine (List.perm_ext_iff_of_nodup ?_ hS.nodup).2 fun x => ?_
    · unfold List.Nodup
      rw [List.pairwise_map]
      refine hpw.imp_of_mem ?_
      intro p q hp hq hne e
      obtain ⟨x, hx, ex⟩ := hk p hp
      obtain ⟨y, hy, ey⟩ := hk q hq
      rw [ex, ey, unK_klK hx, unK_klK hy] at e
      rw [ex, ey, e] at hne
      exact hne rfl
    · constructor
      · intro hx
        obtain ⟨p, hp, rfl⟩ := List.mem_map.1 hx
        obtain ⟨x, hx, ex⟩ := hk p hp
        rw [ex, unK_klK hx]
        have : has (.map es) (klK x) = true := by
          rw [← ex]
          exact List.any_eq_true.2 ⟨p, hp, by rw [ex]; simp [klK, Lit.sameKey]⟩
        obtain ⟨d, hd, rfl⟩ := (h.has x hx).1 this
        exact List.mem_map.2 ⟨d, hd, rfl⟩
      · intro hx
        obtain ⟨d, hd, rfl⟩ := List.mem_map.1 hx
        have hw := keyD_wf (h.wf d hd)
        have := (h.has _ hw).2 ⟨d, hd, rfl⟩
        obtain ⟨p, hp, hs⟩ := List.any_eq_true.1 this
        obtain ⟨x, hx, ex⟩ := hk p hp
        rw [ex] at hs
        rw [sameKey_klK hw hx] at hs
        have e : x = keyD d := by simpa using hs
        exact List.mem_map.2 ⟨p, hp, by rw [ex, unK_klK hx, e]⟩
  have := hp.length_eq
  simpa [Maps.size] using this
end Go.Proofs.Ytibepggakjfbcaa
