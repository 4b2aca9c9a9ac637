/- Numbers as lists of digits, the lowest ahead: plain mathematics, over no program. -/
namespace Go.Proofs.Ytnjmckfkfkalgab

/-- The number of digits to the base B. -/
def val (B : Nat) : List Nat → Nat
  | [] => 0
  | d :: r => d + B * val B r

/-- All digits are below B. -/
def Digs (B : Nat) (l : List Nat) : Prop := ∀ d ∈ l, d < B

theorem Digs.nil (B : Nat) : Digs B [] := fun _ h => by cases h

theorem Digs.append {B : Nat} {l m : List Nat} (h : Digs B l) (k : Digs B m) : Digs B (l ++ m) := fun d hd => by
  rcases List.mem_append.1 hd with h1 | h1
  · exact h d h1
  · exact k d h1

theorem Digs.one {B d : Nat} (h : d < B) : Digs B [d] := fun x hx => by simp at hx; omega

theorem Digs.take {B : Nat} {l : List Nat} (h : Digs B l) (n : Nat) : Digs B (l.take n) := fun d hd => h d (List.mem_of_mem_take hd)

theorem Digs.drop {B : Nat} {l : List Nat} (h : Digs B l) (n : Nat) : Digs B (l.drop n) := fun d hd => h d (List.mem_of_mem_drop hd)

theorem Digs.tail {B x : Nat} {l : List Nat} (h : Digs B (x :: l)) : Digs B l := fun d hd => h d (by simp [hd])

theorem Digs.head {B x : Nat} {l : List Nat} (h : Digs B (x :: l)) : x < B := h x (by simp)

theorem Digs.getD {B : Nat} {l : List Nat} (h : Digs B l) (hB : 0 < B) (i : Nat) : l.getD i 0 < B := by
  rw [List.getD_eq_getElem?_getD]
  by_cases hi : i < l.length
  · rw [List.getElem?_eq_getElem hi]; exact h _ (List.getElem_mem hi)
  · rw [List.getElem?_eq_none (by omega)]; exact hB

theorem val_append (B : Nat) : ∀ l m : List Nat, val B (l ++ m) = val B l + B ^ l.length * val B m
  | [], m => by simp [val]
  | d :: r, m => by
    simp only [List.cons_append, val, val_append B r m, List.length_cons, Nat.pow_succ]
    rw [Nat.mul_add, ← Nat.mul_assoc, Nat.mul_comm B (B ^ r.length)]
    omega

theorem val_snoc (B : Nat) (l : List Nat) (d : Nat) : val B (l ++ [d]) = val B l + B ^ l.length * d := by
  rw [val_append]; simp [val]

theorem val_lt {B : Nat} (hB : 0 < B) : ∀ {l : List Nat}, Digs B l → val B l < B ^ l.length
  | [], _ => by simp [val]
  | d :: r, h => by
    have h1 := val_lt hB h.tail
    have h2 := h.head
    simp only [val, List.length_cons, Nat.pow_succ]
    have : B * val B r + B ≤ B ^ r.length * B := by
      calc B * val B r + B = B * (val B r + 1) := by rw [Nat.mul_add, Nat.mul_one]
        _ ≤ B * B ^ r.length := Nat.mul_le_mul_left _ h1
        _ = B ^ r.length * B := Nat.mul_comm _ _
    omega

theorem val_zeros (B : Nat) : ∀ {l : List Nat}, (∀ d ∈ l, d = 0) → val B l = 0
  | [], _ => rfl
  | d :: r, h => by
    have h1 := h d (by simp)
    have h2 := val_zeros B (l := r) fun x hx => h x (by simp [hx])
    simp [val, h1, h2]

/-- Digit number i of a number. -/
def dig (B V i : Nat) : Nat := V / B ^ i % B

/-- A number in n digits, what is above cut off. -/
def digs (B V : Nat) : Nat → List Nat
  | 0 => []
  | n + 1 => digs B V n ++ [dig B V n]

theorem digs_length (B V : Nat) : ∀ n, (digs B V n).length = n
  | 0 => rfl
  | n + 1 => by simp [digs, digs_length B V n]

theorem digs_digs {B : Nat} (hB : 0 < B) (V : Nat) : ∀ n, Digs B (digs B V n)
  | 0 => Digs.nil B
  | n + 1 => (digs_digs hB V n).append (Digs.one (Nat.mod_lt _ hB))

theorem val_digs {B : Nat} (V : Nat) : ∀ n, val B (digs B V n) = V % B ^ n
  | 0 => by simp [digs, val, Nat.mod_one]
  | n + 1 => by
    rw [digs, val_snoc, val_digs V n, digs_length, dig, Nat.pow_succ, Nat.mod_mul]

/-- Digits are told by their number and how many they are. -/
theorem digs_val {B : Nat} (hB : 0 < B) : ∀ {l : List Nat} {V n : Nat}, Digs B l → l.length = n → val B l = V % B ^ n → l = digs B V n := by
  intro l V n
  induction n generalizing l with
  | zero => intro _ hl _; exact List.eq_nil_of_length_eq_zero hl
  | succ n ih =>
    intro hd hl hv
    obtain ⟨m, d, rfl⟩ : ∃ m d, l = m ++ [d] := by
      refine ⟨l.dropLast, l.getLast (by intro e; subst e; simp at hl), ?_⟩
      exact (List.dropLast_concat_getLast _).symm
    have hm : m.length = n := by simpa using hl
    have hdm : Digs B m := fun x hx => hd x (by simp [hx])
    have hd0 : d < B := hd d (by simp)
    have hlt := val_lt hB hdm
    rw [val_snoc, hm, Nat.pow_succ, Nat.mod_mul] at hv
    rw [hm] at hlt
    have hpos : 0 < B ^ n := Nat.pow_pos hB
    have e1 : val B m = V % B ^ n := by
      have h1 : (val B m + B ^ n * d) % B ^ n = (V % B ^ n + B ^ n * (V / B ^ n % B)) % B ^ n := by rw [hv]
      rw [Nat.add_mul_mod_self_left, Nat.add_mul_mod_self_left, Nat.mod_eq_of_lt hlt, Nat.mod_mod] at h1
      exact h1
    have e2 : d = V / B ^ n % B := by
      have : B ^ n * d = B ^ n * (V / B ^ n % B) := by omega
      exact Nat.eq_of_mul_eq_mul_left hpos this
    rw [digs, dig, ← e2, ih hdm hm e1]

/-- Two lists of digits of one length and one number are one. -/
theorem digs_inj {B : Nat} (hB : 0 < B) {l m : List Nat} (hl : Digs B l) (hm : Digs B m) (hn : l.length = m.length) (hv : val B l = val B m) : l = m := by
  have h1 := digs_val hB (V := val B l) hl rfl (Nat.mod_eq_of_lt (val_lt hB hl)).symm
  have h2 := digs_val hB (V := val B l) hm hn.symm (by rw [hv, Nat.mod_eq_of_lt]; rw [hn]; exact val_lt hB hm)
  rw [h1, h2]

theorem digs_getD (B V : Nat) : ∀ n i, i < n → (digs B V n).getD i 0 = dig B V i
  | n + 1, i, h => by
    rw [digs, List.getD_eq_getElem?_getD]
    by_cases hi : i < n
    · rw [List.getElem?_append_left (by rw [digs_length]; exact hi), ← List.getD_eq_getElem?_getD, digs_getD B V n i hi]
    · have : i = n := by omega
      subst this
      rw [List.getElem?_append_right (by rw [digs_length]; omega), digs_length]
      simp

theorem val_take_drop (B : Nat) (l : List Nat) (n : Nat) (h : n ≤ l.length) : val B l = val B (l.take n) + B ^ n * val B (l.drop n) := by
  have := val_append B (l.take n) (l.drop n)
  rw [List.take_append_drop, List.length_take, Nat.min_eq_left h] at this
  exact this

/-- Digit i is what it is to be. -/
theorem dig_val {B : Nat} (hB : 0 < B) {l : List Nat} (h : Digs B l) (i : Nat) : dig B (val B l) i = l.getD i 0 := by
  unfold dig
  by_cases hi : i < l.length
  · have e := val_take_drop B l i (by omega)
    have hlt : val B (l.take i) < B ^ i := by
      have := val_lt hB (h.take i)
      rwa [List.length_take, Nat.min_eq_left (by omega)] at this
    have hd : l.drop i = l[i] :: l.drop (i + 1) := List.drop_eq_getElem_cons hi
    rw [hd] at e
    rw [e, Nat.add_mul_div_left _ _ (Nat.pow_pos hB), Nat.div_eq_of_lt hlt, Nat.zero_add]
    simp only [val]
    rw [Nat.add_mul_mod_self_left, Nat.mod_eq_of_lt (h _ (List.getElem_mem hi))]
    rw [List.getD_eq_getElem?_getD, List.getElem?_eq_getElem hi]; rfl
  · have := val_lt hB h
    have h2 : B ^ l.length ≤ B ^ i := Nat.pow_le_pow_right hB (by omega)
    rw [Nat.div_eq_of_lt (by omega), List.getD_eq_getElem?_getD, List.getElem?_eq_none (by omega)]
    simp

end Go.Proofs.Ytnjmckfkfkalgab
