/- Plain lemmas on texts as lists of bytes: no program. -/
namespace Go.Proofs.Ytdcjddiigipdmaa

def letterB (c : Int) : Bool := decide (97 ≤ c ∧ c ≤ 122 ∨ 65 ≤ c ∧ c ≤ 90 ∨ c = 95)
def digitB (c : Int) : Bool := decide (48 ≤ c ∧ c ≤ 57)
def signB (c : Int) : Bool := letterB c || digitB c

/-- What both NameOK come to, of a text. -/
def nameB (s : ByteArray) : Bool :=
  decide (1 ≤ s.size) && decide (s.size ≤ 20) && letterB (s.data.toList.headD 0).toNat && s.data.toList.all (fun c => signB c.toNat)

theorem letter_not_digit (c : Int) (h : letterB c = true) : digitB c = false := by
  simp [letterB, digitB] at *; omega

theorem len_toList (s : ByteArray) : s.data.toList.length = s.size := by
  rw [Array.length_toList]; rfl

theorem get_toList (s : ByteArray) (j : Nat) (h : j < s.size) : s[j] = s.data.toList[j]'(by rw [len_toList]; exact h) := rfl

theorem headD_get (l : List UInt8) (h : 0 < l.length) : l.headD 0 = l[0] := by
  cases l with
  | nil => simp at h
  | cons a r => rfl

theorem head_eq (s : ByteArray) (h : 0 < s.size) : s.data.toList.headD 0 = s[0] := by
  rw [get_toList s 0 h]; exact headD_get _ (by rw [len_toList]; exact h)

theorem all_get (s : ByteArray) (p : UInt8 → Bool) : s.data.toList.all p = true ↔ ∀ j (h : j < s.size), p s[j] = true := by
  rw [List.all_eq_true]
  constructor
  · intro h j hj
    rw [get_toList s j hj]
    exact h _ (List.getElem_mem _)
  · intro h x hx
    obtain ⟨j, hj, rfl⟩ := List.getElem_of_mem hx
    exact h j (by rw [← len_toList]; exact hj)

theorem nameB_short (s : ByteArray) (h : s.size < 1) : nameB s = false := by
  have : ¬ 1 ≤ s.size := by omega
  simp [nameB, this]
theorem nameB_long (s : ByteArray) (h : 20 < s.size) : nameB s = false := by
  have : ¬ s.size ≤ 20 := by omega
  simp [nameB, this]
theorem nameB_head (s : ByteArray) (h : 0 < s.size) (hd : letterB s[0].toNat = false) : nameB s = false := by
  unfold nameB
  rw [head_eq s h, hd]
  simp
theorem nameB_at (s : ByteArray) (k : Nat) (h : k < s.size) (hd : signB s[k].toNat = false) : nameB s = false := by
  have : s.data.toList.all (fun c => signB c.toNat) = false := by
    rw [Bool.eq_false_iff]; intro ha
    have := (all_get s _).1 ha k h
    simp [hd] at this
  unfold nameB
  rw [this, Bool.and_false]
theorem nameB_yes (s : ByteArray) (h1 : 1 ≤ s.size) (h2 : s.size ≤ 20) (hd : letterB s[0].toNat = true) (ha : ∀ j (h : j < s.size), signB s[j].toNat = true) : nameB s = true := by
  have : s.data.toList.all (fun c => signB c.toNat) = true := (all_get s _).2 ha
  unfold nameB
  rw [this, head_eq s h1, hd]
  simp [h1, h2]

/-- The sum of a text's bytes. -/
def sumL (l : List UInt8) : Int := l.foldl (fun n c => (31 * n + (c.toNat : Int)) % 65521) 1
theorem sumL_snoc (l : List UInt8) (c : UInt8) : sumL (l ++ [c]) = (31 * sumL l + (c.toNat : Int)) % 65521 := by
  unfold sumL; rw [List.foldl_append]; rfl
theorem sumL_bd (l : List UInt8) : 0 ≤ sumL l ∧ sumL l < 65521 := by
  rcases List.eq_nil_or_concat l with rfl | ⟨l', c, rfl⟩
  · decide
  · rw [List.concat_eq_append, sumL_snoc]; omega
theorem take_snoc (s : ByteArray) (k : Nat) (h : k < s.size) : s.data.toList.take (k + 1) = s.data.toList.take k ++ [s[k]] := by
  rw [List.take_succ_eq_append_getElem (by rw [len_toList]; exact h)]; rfl
theorem take_all (s : ByteArray) : s.data.toList.take s.size = s.data.toList := by
  rw [← len_toList]; exact List.take_length
end Go.Proofs.Ytdcjddiigipdmaa
