/- PLAIN MATHEMATICS: trees of digests over texts. The digest D is any function whose values have 32 bytes. No Go and no program stands in it. -/
namespace Go.Proofs.YtkmiodlehmocnaaDoor

/-- The greatest power of two below n. -/
def spl (n : Nat) : Nat := 2 ^ (n - 1).log2
theorem spl_pos (n : Nat) : 1 ≤ spl n := Nat.pos_of_ne_zero (by unfold spl; exact Nat.ne_of_gt (Nat.pow_pos (by decide)))
theorem spl_lt {n : Nat} (h : 2 ≤ n) : spl n < n := by
  have := Nat.log2_self_le (n := n - 1) (by omega)
  unfold spl; omega
theorem spl_ge {n : Nat} (h : 2 ≤ n) : n ≤ 2 * spl n := by
  have := Nat.lt_log2_self (n := n - 1)
  unfold spl; rw [Nat.pow_succ] at this; omega

abbrev BA := ByteArray
def b1 (n : UInt8) : BA := ⟨#[n]⟩
structure Dig where
  f : BA → BA
  size : ∀ s, (f s).size = 32
variable (D : Dig)
def Dig.leafS (s : BA) : BA := b1 0 ++ s
def Dig.nodeS (a b : BA) : BA := b1 1 ++ a ++ b
def Dig.chainS (a b : BA) : BA := b1 2 ++ a ++ b
def Dig.leaf (s : BA) : BA := D.f (Dig.leafS s)
def Dig.node (a b : BA) : BA := D.f (Dig.nodeS a b)
def Dig.chain (a b : BA) : BA := D.f (Dig.chainS a b)

def Dig.root (l : List BA) : BA :=
  if h0 : l.length = 0 then D.f ⟨#[]⟩
  else if h1 : l.length = 1 then D.leaf (l.getD 0 ⟨#[]⟩)
  else D.node (Dig.root (l.take (spl l.length))) (Dig.root (l.drop (spl l.length)))
termination_by l.length
decreasing_by
  · have := spl_lt (n := l.length) (by omega); simp; omega
  · have := spl_pos l.length; simp; omega
theorem Dig.root_nil : D.root [] = D.f ⟨#[]⟩ := by rw [Dig.root]; rfl
theorem Dig.root_one (s : BA) : D.root [s] = D.leaf s := by rw [Dig.root]; rfl
theorem Dig.root_two {l : List BA} (h : 2 ≤ l.length) : D.root l = D.node (D.root (l.take (spl l.length))) (D.root (l.drop (spl l.length))) := by
  rw [Dig.root, dif_neg (by omega), dif_neg (by omega)]
theorem Dig.root_size (l : List BA) : (D.root l).size = 32 := by
  rw [Dig.root]
  split
  · exact D.size _
  · split <;> exact D.size _

def Dig.path (l : List BA) (i : Nat) : List BA :=
  if h1 : l.length ≤ 1 then []
  else if i < spl l.length then Dig.path (l.take (spl l.length)) i ++ [D.root (l.drop (spl l.length))]
  else Dig.path (l.drop (spl l.length)) (i - spl l.length) ++ [D.root (l.take (spl l.length))]
termination_by l.length
decreasing_by
  · have := spl_lt (n := l.length) (by omega); simp; omega
  · have := spl_pos l.length; simp; omega
theorem Dig.path_one {l : List BA} {i : Nat} (h : l.length ≤ 1) : D.path l i = [] := by rw [Dig.path, dif_pos h]
theorem Dig.path_lt {l : List BA} {i : Nat} (h : 2 ≤ l.length) (hi : i < spl l.length) : D.path l i = D.path (l.take (spl l.length)) i ++ [D.root (l.drop (spl l.length))] := by
  rw [Dig.path, dif_neg (by omega), if_pos hi]
theorem Dig.path_ge {l : List BA} {i : Nat} (h : 2 ≤ l.length) (hi : spl l.length ≤ i) : D.path l i = D.path (l.drop (spl l.length)) (i - spl l.length) ++ [D.root (l.take (spl l.length))] := by
  rw [Dig.path, dif_neg (by omega), if_neg (by omega)]

def Dig.beg (l : List BA) (m : Nat) (whole : Bool) : List BA :=
  if m = l.length then (if whole then [] else [D.root l])
  else if h1 : l.length ≤ 1 then []
  else if m ≤ spl l.length then Dig.beg (l.take (spl l.length)) m whole ++ [D.root (l.drop (spl l.length))]
  else Dig.beg (l.drop (spl l.length)) (m - spl l.length) false ++ [D.root (l.take (spl l.length))]
termination_by l.length
decreasing_by
  · have := spl_lt (n := l.length) (by omega); simp; omega
  · have := spl_pos l.length; simp; omega
theorem Dig.beg_all {l : List BA} {m : Nat} (h : m = l.length) (b : Bool) : D.beg l m b = if b then [] else [D.root l] := by rw [Dig.beg, if_pos h]
theorem Dig.beg_le {l : List BA} {m : Nat} (b : Bool) (h : m < l.length) (h2 : 2 ≤ l.length) (hm : m ≤ spl l.length) : D.beg l m b = D.beg (l.take (spl l.length)) m b ++ [D.root (l.drop (spl l.length))] := by
  rw [Dig.beg, if_neg (by omega), dif_neg (by omega), if_pos hm]
theorem Dig.beg_gt {l : List BA} {m : Nat} (b : Bool) (h : m < l.length) (h2 : 2 ≤ l.length) (hm : spl l.length < m) : D.beg l m b = D.beg (l.drop (spl l.length)) (m - spl l.length) false ++ [D.root (l.take (spl l.length))] := by
  rw [Dig.beg, if_neg (by omega), dif_neg (by omega), if_neg (by omega)]

/-- The value of n, i and a proof; none where its length is wrong. -/
def Dig.val (n i : Nat) (s : BA) (p : List BA) : BA × Bool :=
  if h1 : n ≤ 1 then (D.leaf s, decide (p = []))
  else if p = [] then (⟨#[]⟩, false)
  else if i < spl n then (D.node (Dig.val (spl n) i s p.dropLast).1 (p.getLast?.getD ⟨#[]⟩), (Dig.val (spl n) i s p.dropLast).2)
  else (D.node (p.getLast?.getD ⟨#[]⟩) (Dig.val (n - spl n) (i - spl n) s p.dropLast).1, (Dig.val (n - spl n) (i - spl n) s p.dropLast).2)
termination_by n
decreasing_by
  all_goals have := spl_lt (n := n) (by omega); have := spl_pos n; omega
theorem Dig.val_one (i : Nat) (s : BA) (p : List BA) : D.val 1 i s p = (D.leaf s, decide (p = [])) := by rw [Dig.val, dif_pos (by omega)]
theorem Dig.val_nil {n : Nat} (i : Nat) (s : BA) (h : 2 ≤ n) : D.val n i s [] = (⟨#[]⟩, false) := by rw [Dig.val, dif_neg (by omega), if_pos rfl]
theorem Dig.val_lt {n i : Nat} (s : BA) (p : List BA) (x : BA) (h : 2 ≤ n) (hi : i < spl n) : D.val n i s (p ++ [x]) = (D.node (D.val (spl n) i s p).1 x, (D.val (spl n) i s p).2) := by
  rw [Dig.val, dif_neg (by omega), if_neg (by simp), if_pos hi]; simp
theorem Dig.val_ge {n i : Nat} (s : BA) (p : List BA) (x : BA) (h : 2 ≤ n) (hi : spl n ≤ i) : D.val n i s (p ++ [x]) = (D.node x (D.val (n - spl n) (i - spl n) s p).1, (D.val (n - spl n) (i - spl n) s p).2) := by
  rw [Dig.val, dif_neg (by omega), if_neg (by simp), if_neg (by omega)]; simp

def areD (p : List BA) : Bool := p.all fun s => decide (s.size = 32)
def Dig.verify (root : BA) (n i : Int) (s : BA) (p : List BA) : Bool :=
  if i < 0 ∨ n ≤ i ∨ areD p = false then false
  else (D.val n.toNat i.toNat s p).2 && decide ((D.val n.toNat i.toNat s p).1 = root)

/-- The two values. -/
def Dig.two (old : BA) (m n : Nat) (p : List BA) (whole : Bool) : BA × BA × Bool :=
  if m = n ∧ whole = true then (old, old, decide (p = []))
  else if p = [] then (⟨#[]⟩, ⟨#[]⟩, false)
  else if m = n then (p.getLast?.getD ⟨#[]⟩, p.getLast?.getD ⟨#[]⟩, decide (p.dropLast = []))
  else if h1 : n ≤ 1 then (⟨#[]⟩, ⟨#[]⟩, false)
  else if m ≤ spl n then
    ((Dig.two old m (spl n) p.dropLast whole).1, D.node (Dig.two old m (spl n) p.dropLast whole).2.1 (p.getLast?.getD ⟨#[]⟩), (Dig.two old m (spl n) p.dropLast whole).2.2)
  else (D.node (p.getLast?.getD ⟨#[]⟩) (Dig.two old (m - spl n) (n - spl n) p.dropLast false).1, D.node (p.getLast?.getD ⟨#[]⟩) (Dig.two old (m - spl n) (n - spl n) p.dropLast false).2.1, (Dig.two old (m - spl n) (n - spl n) p.dropLast false).2.2)
termination_by n
decreasing_by
  all_goals have := spl_lt (n := n) (by omega); have := spl_pos n; omega
theorem Dig.two_whole (old : BA) (m : Nat) (p : List BA) : D.two old m m p true = (old, old, decide (p = [])) := by rw [Dig.two, if_pos ⟨rfl, rfl⟩]
theorem Dig.two_nil (old : BA) {m n : Nat} {b : Bool} (h : m ≠ n ∨ b = false) : D.two old m n [] b = (⟨#[]⟩, ⟨#[]⟩, false) := by
  rw [Dig.two, if_neg (by rcases h with h | h <;> simp [h]), if_pos rfl]
theorem Dig.two_last (old : BA) (m : Nat) (p : List BA) (x : BA) : D.two old m m (p ++ [x]) false = (x, x, decide (p = [])) := by
  rw [Dig.two, if_neg (by simp), if_neg (by simp), if_pos rfl]; simp
theorem Dig.two_le (old : BA) {m n : Nat} (p : List BA) (x : BA) (b : Bool) (hm : m < n) (h : 2 ≤ n) (hk : m ≤ spl n) :
    D.two old m n (p ++ [x]) b = ((D.two old m (spl n) p b).1, D.node (D.two old m (spl n) p b).2.1 x, (D.two old m (spl n) p b).2.2) := by
  rw [Dig.two, if_neg (by omega), if_neg (by simp), if_neg (by omega), dif_neg (by omega), if_pos hk]; simp
theorem Dig.two_gt (old : BA) {m n : Nat} (p : List BA) (x : BA) (b : Bool) (hm : m < n) (h : 2 ≤ n) (hk : spl n < m) :
    D.two old m n (p ++ [x]) b = (D.node x (D.two old (m - spl n) (n - spl n) p false).1, D.node x (D.two old (m - spl n) (n - spl n) p false).2.1, (D.two old (m - spl n) (n - spl n) p false).2.2) := by
  rw [Dig.two, if_neg (by omega), if_neg (by simp), if_neg (by omega), dif_neg (by omega), if_neg (by omega)]; simp

def Dig.verifyExt (old : BA) (m : Int) (root : BA) (n : Int) (p : List BA) : Bool :=
  if m < 0 ∨ n < m ∨ areD [old, root] = false ∨ areD p = false then false
  else if m = 0 then decide (p = []) && decide (old = D.root [])
  else (D.two old m.toNat n.toNat p true).2.2 && (decide ((D.two old m.toNat n.toNat p true).1 = old) && decide ((D.two old m.toNat n.toNat p true).2.1 = root))

/-- Lists all of whose texts are digests. -/
theorem areD_append (p q : List BA) : areD (p ++ q) = (areD p && areD q) := by simp [areD]
theorem areD_one (x : BA) : areD [x] = decide (x.size = 32) := by simp [areD]
theorem Dig.path_areD (l : List BA) (i : Nat) : areD (D.path l i) = true := by
  induction h : l.length using Nat.strongRecOn generalizing l i with
  | ind n ih =>
    subst h
    by_cases h1 : l.length ≤ 1
    · rw [D.path_one h1]; rfl
    · have hlt := spl_lt (n := l.length) (by omega)
      have hp := spl_pos l.length
      by_cases hi : i < spl l.length
      · rw [D.path_lt (by omega) hi, areD_append, ih _ (by simp; omega) _ _ rfl, areD_one, D.root_size]; rfl
      · rw [D.path_ge (by omega) (by omega), areD_append, ih _ (by simp; omega) _ _ rfl, areD_one, D.root_size]; rfl
theorem Dig.beg_areD (l : List BA) (m : Nat) (b : Bool) : areD (D.beg l m b) = true := by
  induction h : l.length using Nat.strongRecOn generalizing l m b with
  | ind n ih =>
    subst h
    by_cases hm : m = l.length
    · rw [D.beg_all hm]
      cases b
      · simp [areD, D.root_size]
      · rfl
    · by_cases h1 : l.length ≤ 1
      · rw [Dig.beg, if_neg hm, dif_pos h1]; rfl
      · have hlt := spl_lt (n := l.length) (by omega)
        have hp := spl_pos l.length
        rw [Dig.beg, if_neg hm, dif_neg h1]
        split
        · rw [areD_append, ih _ (by simp; omega) _ _ _ rfl, areD_one, D.root_size]; rfl
        · rw [areD_append, ih _ (by simp; omega) _ _ _ rfl, areD_one, D.root_size]; rfl

/-- The proof of an entry is accepted. -/
theorem Dig.val_path (l : List BA) (i : Nat) (hi : i < l.length) : D.val l.length i (l.getD i ⟨#[]⟩) (D.path l i) = (D.root l, true) := by
  induction h : l.length using Nat.strongRecOn generalizing l i with
  | ind n ih =>
    subst h
    by_cases h1 : l.length ≤ 1
    · have h1' : l.length = 1 := by omega
      match l, h1' with
      | [s], _ =>
        have : i = 0 := by simp at hi; omega
        subst this
        rw [D.path_one (by simp), D.root_one]
        exact D.val_one 0 s []
    · have hlt := spl_lt (n := l.length) (by omega)
      have hp := spl_pos l.length
      have hlen : (l.take (spl l.length)).length = spl l.length := by simp; omega
      have hlen2 : (l.drop (spl l.length)).length = l.length - spl l.length := by simp
      by_cases hk : i < spl l.length
      · rw [D.path_lt (by omega) hk, D.val_lt _ _ _ (by omega) hk]
        have := ih (l.take (spl l.length)).length (by omega) (l.take (spl l.length)) i (by omega) rfl
        rw [hlen, show (l.take (spl l.length)).getD i ⟨#[]⟩ = l.getD i ⟨#[]⟩ by simp [List.getD_eq_getElem?_getD, List.getElem?_take, hk]] at this
        rw [this, D.root_two (l := l) (by omega)]
      · rw [D.path_ge (by omega) (by omega), D.val_ge _ _ _ (by omega) (by omega)]
        have := ih (l.drop (spl l.length)).length (by omega) (l.drop (spl l.length)) (i - spl l.length) (by omega) rfl
        rw [hlen2, show (l.drop (spl l.length)).getD (i - spl l.length) ⟨#[]⟩ = l.getD i ⟨#[]⟩ by simp [List.getD_eq_getElem?_getD, List.getElem?_drop, show spl l.length + (i - spl l.length) = i by omega]] at this
        rw [this, D.root_two (l := l) (by omega)]

/-- The extension of a beginning is accepted. -/
theorem Dig.two_beg (l : List BA) (m : Nat) (b : Bool) (old : BA) (h1 : 1 ≤ m) (hm : m ≤ l.length) (hb : b = true → old = D.root (l.take m)) :
    D.two old m l.length (D.beg l m b) b = (D.root (l.take m), D.root l, true) := by
  induction h : l.length using Nat.strongRecOn generalizing l m b old with
  | ind n ih =>
    subst h
    by_cases he : m = l.length
    · subst he
      rw [D.beg_all rfl, List.take_length] at *
      cases b
      · exact D.two_last old l.length [] (D.root l)
      · rw [hb rfl]; exact D.two_whole _ _ _
    · have h2 : 2 ≤ l.length := by omega
      have hlt := spl_lt (n := l.length) (by omega)
      have hp := spl_pos l.length
      have hlen : (l.take (spl l.length)).length = spl l.length := by simp; omega
      have hlen2 : (l.drop (spl l.length)).length = l.length - spl l.length := by simp
      by_cases hk : m ≤ spl l.length
      · rw [D.beg_le b (by omega) h2 hk, D.two_le _ _ _ _ (by omega) h2 hk]
        have ht : (l.take (spl l.length)).take m = l.take m := by rw [List.take_take, Nat.min_eq_left hk]
        have := ih (l.take (spl l.length)).length (by omega) (l.take (spl l.length)) m b old h1 (by omega) (by rw [ht]; exact hb) rfl
        rw [hlen, ht] at this
        rw [this, D.root_two h2]
      · rw [D.beg_gt b (by omega) h2 (by omega), D.two_gt _ _ _ _ (by omega) h2 (by omega)]
        have := ih (l.drop (spl l.length)).length (by omega) (l.drop (spl l.length)) (m - spl l.length) false old (by omega) (by omega) (by simp) rfl
        rw [hlen2] at this
        rw [this, D.root_two h2]
        have h2m : 2 ≤ (l.take m).length := by simp; omega
        have hs : spl (l.take m).length = spl l.length := by
          have hge := spl_ge h2
          rw [List.length_take, Nat.min_eq_left hm]
          unfold spl
          congr 1
          rw [Nat.log2_eq_iff (by omega)]
          have h3 := Nat.log2_self_le (n := l.length - 1) (by omega)
          have h4 := Nat.lt_log2_self (n := l.length - 1)
          unfold spl at hk
          exact ⟨by omega, by omega⟩
        rw [D.root_two h2m, hs, List.take_take, Nat.min_eq_left (by omega), List.drop_take]
end Go.Proofs.YtkmiodlehmocnaaDoor
