/- MERGED: DS1, DS2, DS3, DT1, DT2, DT4, DT4b. -/
import Derived.Test.YtpapfegbodolgaaDoorChecked
import Derived.WalkKit
import Derived.WalkLawsBesides
import Derived.RowKit
import Derived.RegionTactic
import Derived.ChangeAlike
import Derived.BigRegion
import Derived.WalkSmall
import Derived.StillTailTactics
import Derived.Deep.RegionHeld3
import Derived.Deep.RegionWith
import Derived.Lib.Hide
import Derived.Deep.LoopGhost
import Derived.OwnWalk
import Derived.Maps.AppendAt
import Derived.RangeFuncBox
import Derived.Laws.BytesArg
import Derived.Deep.WholeRow
section
namespace Go.Proofs.YtpapfegbodolgaaDoor

def rotr (x n : Nat) : Nat := x / 2 ^ n ||| x * 2 ^ (32 - n) % 4294967296
def kTab : List Nat := [1116352408, 1899447441, 3049323471, 3921009573, 961987163, 1508970993, 2453635748, 2870763221, 3624381080, 310598401, 607225278, 1426881987, 1925078388, 2162078206, 2614888103, 3248222580, 3835390401, 4022224774, 264347078, 604807628, 770255983, 1249150122, 1555081692, 1996064986, 2554220882, 2821834349, 2952996808, 3210313671, 3336571891, 3584528711, 113926993, 338241895, 666307205, 773529912, 1294757372, 1396182291, 1695183700, 1986661051, 2177026350, 2456956037, 2730485921, 2820302411, 3259730800, 3345764771, 3516065817, 3600352804, 4094571909, 275423344, 430227734, 506948616, 659060556, 883997877, 958139571, 1322822218, 1537002063, 1747873779, 1955562222, 2024104815, 2227730452, 2361852424, 2428436474, 2756734187, 3204031479, 3329325298]
def word (b : List Nat) (i : Nat) : Nat := b.getD (4 * i) 0 * 16777216 + b.getD (4 * i + 1) 0 * 65536 + b.getD (4 * i + 2) 0 * 256 + b.getD (4 * i + 3) 0
def sg0 (x : Nat) : Nat := rotr x 7 ^^^ rotr x 18 ^^^ x / 8
def sg1 (x : Nat) : Nat := rotr x 17 ^^^ rotr x 19 ^^^ x / 1024
/-- The first words of the schedule. -/
def sched (b : List Nat) : Nat → List Nat
  | 0 => []
  | i + 1 => sched b i ++ [if i < 16 then word b i else ((sched b i).getD (i - 16) 0 + sg0 ((sched b i).getD (i - 15) 0) + (sched b i).getD (i - 7) 0 + sg1 ((sched b i).getD (i - 2) 0)) % 4294967296]
/-- The eight words. -/
structure St where
  (a b c d e f g h : Nat)
def St.list (s : St) : List Nat := [s.a, s.b, s.c, s.d, s.e, s.f, s.g, s.h]
def bs0 (x : Nat) : Nat := rotr x 2 ^^^ rotr x 13 ^^^ rotr x 22
def bs1 (x : Nat) : Nat := rotr x 6 ^^^ rotr x 11 ^^^ rotr x 25
def chs (e f g : Nat) : Nat := (e &&& f) ^^^ ((4294967295 ^^^ e) &&& g)
def maj (a b c : Nat) : Nat := (a &&& b) ^^^ (a &&& c) ^^^ (b &&& c)
def St.t (s : St) (k w : Nat) : Nat := (s.h + bs1 s.e + chs s.e s.f s.g + k + w) % 4294967296
def St.u (s : St) : Nat := (bs0 s.a + maj s.a s.b s.c) % 4294967296
def St.step (s : St) (k w : Nat) : St := ⟨(s.t k w + s.u) % 4294967296, s.a, s.b, s.c, (s.d + s.t k w) % 4294967296, s.e, s.f, s.g⟩
def St.add (s r : St) : St := ⟨(s.a + r.a) % 4294967296, (s.b + r.b) % 4294967296, (s.c + r.c) % 4294967296, (s.d + r.d) % 4294967296, (s.e + r.e) % 4294967296, (s.f + r.f) % 4294967296, (s.g + r.g) % 4294967296, (s.h + r.h) % 4294967296⟩
def rounds (w : List Nat) (s : St) : Nat → St
  | 0 => s
  | i + 1 => (rounds w s i).step (kTab.getD i 0) (w.getD i 0)
def compress (s : St) (b : List Nat) : St := s.add (rounds (sched b 64) s 64)
def start : St := ⟨1779033703, 3144134277, 1013904242, 2773480762, 1359893119, 2600822924, 528734635, 1541459225⟩
def blocks (x : List Nat) : Nat → St
  | 0 => start
  | i + 1 => compress (blocks x i) ((x.drop (64 * i)).take 64)
/-- The length in bits, as eight bytes, the highest one first. -/
def len8 (n : Nat) : List Nat := [8 * n / 2 ^ 56 % 256, 8 * n / 2 ^ 48 % 256, 8 * n / 2 ^ 40 % 256, 8 * n / 2 ^ 32 % 256, 8 * n / 2 ^ 24 % 256, 8 * n / 2 ^ 16 % 256, 8 * n / 2 ^ 8 % 256, 8 * n % 256]
def zeros (n : Nat) : Nat := (119 - n % 64) % 64
def pad (l : List Nat) : List Nat := l ++ [128] ++ List.replicate (zeros l.length) 0 ++ len8 l.length
def be4 (x : Nat) : List Nat := [x / 16777216 % 256, x / 65536 % 256, x / 256 % 256, x % 256]
def St.bytes (s : St) : List Nat := be4 s.a ++ be4 s.b ++ be4 s.c ++ be4 s.d ++ be4 s.e ++ be4 s.f ++ be4 s.g ++ be4 s.h
def sha (l : List Nat) : List Nat := (blocks (pad l) ((pad l).length / 64)).bytes

set_option maxRecDepth 100000 in
theorem sha_nil : sha [] = [227, 176, 196, 66, 152, 252, 28, 20, 154, 251, 244, 200, 153, 111, 185, 36, 39, 174, 65, 228, 100, 155, 147, 76, 164, 149, 153, 27, 120, 82, 184, 85] := by decide +kernel
set_option maxRecDepth 100000 in
theorem sha_abc : sha [97, 98, 99] = [186, 120, 22, 191, 143, 1, 207, 234, 65, 65, 64, 222, 93, 174, 34, 35, 176, 3, 97, 163, 150, 23, 122, 156, 180, 16, 255, 97, 242, 0, 21, 173] := by decide +kernel
end Go.Proofs.YtpapfegbodolgaaDoor
end

section
set_option linter.unusedVariables false
set_option linter.unusedSimpArgs false
namespace Go.Proofs.YtpapfegbodolgaaDoor

/-- The greatest power of two below n. -/
def spl (n : Nat) : Nat := 2 ^ (n - 1).log2
theorem spl_pos (n : Nat) : 1 ≤ spl n := Nat.pos_of_ne_zero (by unfold spl; exact Nat.ne_of_gt (Nat.pow_pos (by decide)))
theorem spl_lt {n : Nat} (h : 2 ≤ n) : spl n < n := by
  have := Nat.log2_self_le (n := n - 1) (by omega)
  unfold spl; omega
theorem spl_ge {n : Nat} (h : 2 ≤ n) : n ≤ 2 * spl n := by
  have := Nat.lt_log2_self (n := n - 1)
  unfold spl; rw [Nat.pow_succ] at this; omega

abbrev BA := ByteArray
def b1 (n : UInt8) : BA := ⟨#[n]⟩
structure Dig where
  f : BA → BA
  size : ∀ s, (f s).size = 32
variable (D : Dig)
def Dig.leafS (s : BA) : BA := b1 0 ++ s
def Dig.nodeS (a b : BA) : BA := b1 1 ++ a ++ b
def Dig.chainS (a b : BA) : BA := b1 2 ++ a ++ b
def Dig.leaf (s : BA) : BA := D.f (Dig.leafS s)
def Dig.node (a b : BA) : BA := D.f (Dig.nodeS a b)
def Dig.chain (a b : BA) : BA := D.f (Dig.chainS a b)

def Dig.root (l : List BA) : BA :=
  if h0 : l.length = 0 then D.f ⟨#[]⟩
  else if h1 : l.length = 1 then D.leaf (l.getD 0 ⟨#[]⟩)
  else D.node (Dig.root (l.take (spl l.length))) (Dig.root (l.drop (spl l.length)))
termination_by l.length
decreasing_by
  · have := spl_lt (n := l.length) (by omega); simp; omega
  · have := spl_pos l.length; simp; omega
theorem Dig.root_nil : D.root [] = D.f ⟨#[]⟩ := by rw [Dig.root]; rfl
theorem Dig.root_one (s : BA) : D.root [s] = D.leaf s := by rw [Dig.root]; rfl
theorem Dig.root_two {l : List BA} (h : 2 ≤ l.length) : D.root l = D.node (D.root (l.take (spl l.length))) (D.root (l.drop (spl l.length))) := by
  rw [Dig.root, dif_neg (by omega), dif_neg (by omega)]
theorem Dig.root_size (l : List BA) : (D.root l).size = 32 := by
  rw [Dig.root]
  split
  · exact D.size _
  · split <;> exact D.size _

def Dig.path (l : List BA) (i : Nat) : List BA :=
  if h1 : l.length ≤ 1 then []
  else if i < spl l.length then Dig.path (l.take (spl l.length)) i ++ [D.root (l.drop (spl l.length))]
  else Dig.path (l.drop (spl l.length)) (i - spl l.length) ++ [D.root (l.take (spl l.length))]
termination_by l.length
decreasing_by
  · have := spl_lt (n := l.length) (by omega); simp; omega
  · have := spl_pos l.length; simp; omega
theorem Dig.path_one {l : List BA} {i : Nat} (h : l.length ≤ 1) : D.path l i = [] := by rw [Dig.path, dif_pos h]
theorem Dig.path_lt {l : List BA} {i : Nat} (h : 2 ≤ l.length) (hi : i < spl l.length) : D.path l i = D.path (l.take (spl l.length)) i ++ [D.root (l.drop (spl l.length))] := by
  rw [Dig.path, dif_neg (by omega), if_pos hi]
theorem Dig.path_ge {l : List BA} {i : Nat} (h : 2 ≤ l.length) (hi : spl l.length ≤ i) : D.path l i = D.path (l.drop (spl l.length)) (i - spl l.length) ++ [D.root (l.take (spl l.length))] := by
  rw [Dig.path, dif_neg (by omega), if_neg (by omega)]

def Dig.beg (l : List BA) (m : Nat) (whole : Bool) : List BA :=
  if m = l.length then (if whole then [] else [D.root l])
  else if h1 : l.length ≤ 1 then []
  else if m ≤ spl l.length then Dig.beg (l.take (spl l.length)) m whole ++ [D.root (l.drop (spl l.length))]
  else Dig.beg (l.drop (spl l.length)) (m - spl l.length) false ++ [D.root (l.take (spl l.length))]
termination_by l.length
decreasing_by
  · have := spl_lt (n := l.length) (by omega); simp; omega
  · have := spl_pos l.length; simp; omega
theorem Dig.beg_all {l : List BA} {m : Nat} (h : m = l.length) (b : Bool) : D.beg l m b = if b then [] else [D.root l] := by rw [Dig.beg, if_pos h]
theorem Dig.beg_le {l : List BA} {m : Nat} (b : Bool) (h : m < l.length) (h2 : 2 ≤ l.length) (hm : m ≤ spl l.length) : D.beg l m b = D.beg (l.take (spl l.length)) m b ++ [D.root (l.drop (spl l.length))] := by
  rw [Dig.beg, if_neg (by omega), dif_neg (by omega), if_pos hm]
theorem Dig.beg_gt {l : List BA} {m : Nat} (b : Bool) (h : m < l.length) (h2 : 2 ≤ l.length) (hm : spl l.length < m) : D.beg l m b = D.beg (l.drop (spl l.length)) (m - spl l.length) false ++ [D.root (l.take (spl l.length))] := by
  rw [Dig.beg, if_neg (by omega), dif_neg (by omega), if_neg (by omega)]

/-- The value of n, i and a proof; none where its length is wrong. -/
def Dig.val (n i : Nat) (s : BA) (p : List BA) : BA × Bool :=
  if h1 : n ≤ 1 then (D.leaf s, decide (p = []))
  else if p = [] then (⟨#[]⟩, false)
  else if i < spl n then (D.node (Dig.val (spl n) i s p.dropLast).1 (p.getLast?.getD ⟨#[]⟩), (Dig.val (spl n) i s p.dropLast).2)
  else (D.node (p.getLast?.getD ⟨#[]⟩) (Dig.val (n - spl n) (i - spl n) s p.dropLast).1, (Dig.val (n - spl n) (i - spl n) s p.dropLast).2)
termination_by n
decreasing_by
  all_goals have := spl_lt (n := n) (by omega); have := spl_pos n; omega
theorem Dig.val_one (i : Nat) (s : BA) (p : List BA) : D.val 1 i s p = (D.leaf s, decide (p = [])) := by rw [Dig.val, dif_pos (by omega)]
theorem Dig.val_nil {n : Nat} (i : Nat) (s : BA) (h : 2 ≤ n) : D.val n i s [] = (⟨#[]⟩, false) := by rw [Dig.val, dif_neg (by omega), if_pos rfl]
theorem Dig.val_lt {n i : Nat} (s : BA) (p : List BA) (x : BA) (h : 2 ≤ n) (hi : i < spl n) : D.val n i s (p ++ [x]) = (D.node (D.val (spl n) i s p).1 x, (D.val (spl n) i s p).2) := by
  rw [Dig.val, dif_neg (by omega), if_neg (by simp), if_pos hi]; simp
theorem Dig.val_ge {n i : Nat} (s : BA) (p : List BA) (x : BA) (h : 2 ≤ n) (hi : spl n ≤ i) : D.val n i s (p ++ [x]) = (D.node x (D.val (n - spl n) (i - spl n) s p).1, (D.val (n - spl n) (i - spl n) s p).2) := by
  rw [Dig.val, dif_neg (by omega), if_neg (by simp), if_neg (by omega)]; simp

def areD (p : List BA) : Bool := p.all fun s => decide (s.size = 32)
def Dig.verify (root : BA) (n i : Int) (s : BA) (p : List BA) : Bool :=
  if i < 0 ∨ n ≤ i ∨ areD p = false then false
  else (D.val n.toNat i.toNat s p).2 && decide ((D.val n.toNat i.toNat s p).1 = root)

/-- The two values. -/
def Dig.two (old : BA) (m n : Nat) (p : List BA) (whole : Bool) : BA × BA × Bool :=
  if m = n ∧ whole = true then (old, old, decide (p = []))
  else if p = [] then (⟨#[]⟩, ⟨#[]⟩, false)
  else if m = n then (p.getLast?.getD ⟨#[]⟩, p.getLast?.getD ⟨#[]⟩, decide (p.dropLast = []))
  else if h1 : n ≤ 1 then (⟨#[]⟩, ⟨#[]⟩, false)
  else if m ≤ spl n then
    ((Dig.two old m (spl n) p.dropLast whole).1, D.node (Dig.two old m (spl n) p.dropLast whole).2.1 (p.getLast?.getD ⟨#[]⟩), (Dig.two old m (spl n) p.dropLast whole).2.2)
  else (D.node (p.getLast?.getD ⟨#[]⟩) (Dig.two old (m - spl n) (n - spl n) p.dropLast false).1, D.node (p.getLast?.getD ⟨#[]⟩) (Dig.two old (m - spl n) (n - spl n) p.dropLast false).2.1, (Dig.two old (m - spl n) (n - spl n) p.dropLast false).2.2)
termination_by n
decreasing_by
  all_goals have := spl_lt (n := n) (by omega); have := spl_pos n; omega
theorem Dig.two_whole (old : BA) (m : Nat) (p : List BA) : D.two old m m p true = (old, old, decide (p = [])) := by rw [Dig.two, if_pos ⟨rfl, rfl⟩]
theorem Dig.two_nil (old : BA) {m n : Nat} {b : Bool} (h : m ≠ n ∨ b = false) : D.two old m n [] b = (⟨#[]⟩, ⟨#[]⟩, false) := by
  rw [Dig.two, if_neg (by rcases h with h | h <;> simp [h]), if_pos rfl]
theorem Dig.two_last (old : BA) (m : Nat) (p : List BA) (x : BA) : D.two old m m (p ++ [x]) false = (x, x, decide (p = [])) := by
  rw [Dig.two, if_neg (by simp), if_neg (by simp), if_pos rfl]; simp
theorem Dig.two_le (old : BA) {m n : Nat} (p : List BA) (x : BA) (b : Bool) (hm : m < n) (h : 2 ≤ n) (hk : m ≤ spl n) :
    D.two old m n (p ++ [x]) b = ((D.two old m (spl n) p b).1, D.node (D.two old m (spl n) p b).2.1 x, (D.two old m (spl n) p b).2.2) := by
  rw [Dig.two, if_neg (by omega), if_neg (by simp), if_neg (by omega), dif_neg (by omega), if_pos hk]; simp
theorem Dig.two_gt (old : BA) {m n : Nat} (p : List BA) (x : BA) (b : Bool) (hm : m < n) (h : 2 ≤ n) (hk : spl n < m) :
    D.two old m n (p ++ [x]) b = (D.node x (D.two old (m - spl n) (n - spl n) p false).1, D.node x (D.two old (m - spl n) (n - spl n) p false).2.1, (D.two old (m - spl n) (n - spl n) p false).2.2) := by
  rw [Dig.two, if_neg (by omega), if_neg (by simp), if_neg (by omega), dif_neg (by omega), if_neg (by omega)]; simp

def Dig.verifyExt (old : BA) (m : Int) (root : BA) (n : Int) (p : List BA) : Bool :=
  if m < 0 ∨ n < m ∨ areD [old, root] = false ∨ areD p = false then false
  else if m = 0 then decide (p = []) && decide (old = D.root [])
  else (D.two old m.toNat n.toNat p true).2.2 && (decide ((D.two old m.toNat n.toNat p true).1 = old) && decide ((D.two old m.toNat n.toNat p true).2.1 = root))

/-- Lists all of whose texts are digests. -/
theorem areD_append (p q : List BA) : areD (p ++ q) = (areD p && areD q) := by simp [areD]
theorem areD_one (x : BA) : areD [x] = decide (x.size = 32) := by simp [areD]
theorem Dig.path_areD (l : List BA) (i : Nat) : areD (D.path l i) = true := by
  induction h : l.length using Nat.strongRecOn generalizing l i with
  | ind n ih =>
    subst h
    by_cases h1 : l.length ≤ 1
    · rw [D.path_one h1]; rfl
    · have hlt := spl_lt (n := l.length) (by omega)
      have hp := spl_pos l.length
      by_cases hi : i < spl l.length
      · rw [D.path_lt (by omega) hi, areD_append, ih _ (by simp; omega) _ _ rfl, areD_one, D.root_size]; rfl
      · rw [D.path_ge (by omega) (by omega), areD_append, ih _ (by simp; omega) _ _ rfl, areD_one, D.root_size]; rfl
theorem Dig.beg_areD (l : List BA) (m : Nat) (b : Bool) : areD (D.beg l m b) = true := by
  induction h : l.length using Nat.strongRecOn generalizing l m b with
  | ind n ih =>
    subst h
    by_cases hm : m = l.length
    · rw [D.beg_all hm]
      cases b
      · simp [areD, D.root_size]
      · rfl
    · by_cases h1 : l.length ≤ 1
      · rw [Dig.beg, if_neg hm, dif_pos h1]; rfl
      · have hlt := spl_lt (n := l.length) (by omega)
        have hp := spl_pos l.length
        rw [Dig.beg, if_neg hm, dif_neg h1]
        split
        · rw [areD_append, ih _ (by simp; omega) _ _ _ rfl, areD_one, D.root_size]; rfl
        · rw [areD_append, ih _ (by simp; omega) _ _ _ rfl, areD_one, D.root_size]; rfl

/-- The proof of an entry is accepted. -/
theorem Dig.val_path (l : List BA) (i : Nat) (hi : i < l.length) : D.val l.length i (l.getD i ⟨#[]⟩) (D.path l i) = (D.root l, true) := by
  induction h : l.length using Nat.strongRecOn generalizing l i with
  | ind n ih =>
    subst h
    by_cases h1 : l.length ≤ 1
    · have h1' : l.length = 1 := by omega
      match l, h1' with
      | [s], _ =>
        have : i = 0 := by simp at hi; omega
        subst this
        rw [D.path_one (by simp), D.root_one]
        exact D.val_one 0 s []
    · have hlt := spl_lt (n := l.length) (by omega)
      have hp := spl_pos l.length
      have hlen : (l.take (spl l.length)).length = spl l.length := by simp; omega
      have hlen2 : (l.drop (spl l.length)).length = l.length - spl l.length := by simp
      by_cases hk : i < spl l.length
      · rw [D.path_lt (by omega) hk, D.val_lt _ _ _ (by omega) hk]
        have := ih (l.take (spl l.length)).length (by omega) (l.take (spl l.length)) i (by omega) rfl
        rw [hlen, show (l.take (spl l.length)).getD i ⟨#[]⟩ = l.getD i ⟨#[]⟩ by simp [List.getD_eq_getElem?_getD, List.getElem?_take, hk]] at this
        rw [this, D.root_two (l := l) (by omega)]
      · rw [D.path_ge (by omega) (by omega), D.val_ge _ _ _ (by omega) (by omega)]
        have := ih (l.drop (spl l.length)).length (by omega) (l.drop (spl l.length)) (i - spl l.length) (by omega) rfl
        rw [hlen2, show (l.drop (spl l.length)).getD (i - spl l.length) ⟨#[]⟩ = l.getD i ⟨#[]⟩ by simp [List.getD_eq_getElem?_getD, List.getElem?_drop, show spl l.length + (i - spl l.length) = i by omega]] at this
        rw [this, D.root_two (l := l) (by omega)]

/-- The extension of a beginning is accepted. -/
theorem Dig.two_beg (l : List BA) (m : Nat) (b : Bool) (old : BA) (h1 : 1 ≤ m) (hm : m ≤ l.length) (hb : b = true → old = D.root (l.take m)) :
    D.two old m l.length (D.beg l m b) b = (D.root (l.take m), D.root l, true) := by
  induction h : l.length using Nat.strongRecOn generalizing l m b old with
  | ind n ih =>
    subst h
    by_cases he : m = l.length
    · subst he
      rw [D.beg_all rfl, List.take_length] at *
      cases b
      · exact D.two_last old l.length [] (D.root l)
      · rw [hb rfl]; exact D.two_whole _ _ _
    · have h2 : 2 ≤ l.length := by omega
      have hlt := spl_lt (n := l.length) (by omega)
      have hp := spl_pos l.length
      have hlen : (l.take (spl l.length)).length = spl l.length := by simp; omega
      have hlen2 : (l.drop (spl l.length)).length = l.length - spl l.length := by simp
      by_cases hk : m ≤ spl l.length
      · rw [D.beg_le b (by omega) h2 hk, D.two_le _ _ _ _ (by omega) h2 hk]
        have ht : (l.take (spl l.length)).take m = l.take m := by rw [List.take_take, Nat.min_eq_left hk]
        have := ih (l.take (spl l.length)).length (by omega) (l.take (spl l.length)) m b old h1 (by omega) (by rw [ht]; exact hb) rfl
        rw [hlen, ht] at this
        rw [this, D.root_two h2]
      · rw [D.beg_gt b (by omega) h2 (by omega), D.two_gt _ _ _ _ (by omega) h2 (by omega)]
        have := ih (l.drop (spl l.length)).length (by omega) (l.drop (spl l.length)) (m - spl l.length) false old (by omega) (by omega) (by simp) rfl
        rw [hlen2] at this
        rw [this, D.root_two h2]
        have h2m : 2 ≤ (l.take m).length := by simp; omega
        have hs : spl (l.take m).length = spl l.length := by
          have hge := spl_ge h2
          rw [List.length_take, Nat.min_eq_left hm]
          unfold spl
          congr 1
          rw [Nat.log2_eq_iff (by omega)]
          have h3 := Nat.log2_self_le (n := l.length - 1) (by omega)
          have h4 := Nat.lt_log2_self (n := l.length - 1)
          unfold spl at hk
          exact ⟨by omega, by omega⟩
        rw [D.root_two h2m, hs, List.take_take, Nat.min_eq_left (by omega), List.drop_take]
end Go.Proofs.YtpapfegbodolgaaDoor
end

section
set_option linter.unusedVariables false
set_option linter.unusedSimpArgs false
namespace Go.Proofs.YtpapfegbodolgaaDoor

theorem replicate_add' (a b : Nat) : List.replicate (a + b) (0 : Nat) = List.replicate a 0 ++ List.replicate b 0 := by simp
def chunk (x : List Nat) (i : Nat) : List Nat := (x.drop (64 * i)).take 64
def chunks (x : List Nat) (c : Nat) : List (List Nat) := (List.range c).map (chunk x)
theorem chunks_succ (x : List Nat) (c : Nat) : chunks x (c + 1) = chunks x c ++ [chunk x c] := by simp [chunks, List.range_succ]
theorem chunks_length (x : List Nat) (c : Nat) : (chunks x c).length = c := by simp [chunks]
theorem pad_len (l : List Nat) : (pad l).length = l.length + 9 + zeros l.length := by simp [pad, len8]; omega
theorem pad_blocks (l : List Nat) : 64 * ((pad l).length / 64) = (pad l).length := by rw [pad_len]; unfold zeros; omega
theorem chunk_len (x : List Nat) (i : Nat) (h : 64 * (i + 1) ≤ x.length) : (chunk x i).length = 64 := by simp [chunk]; omega
theorem chunk_pad (l : List Nat) (i : Nat) (h : 64 * (i + 1) ≤ l.length) : chunk (pad l) i = (l.drop (64 * i)).take 64 := by
  unfold chunk pad
  rw [List.append_assoc, List.append_assoc, List.drop_append_of_le_length (by omega), List.take_append_of_le_length (by simp; omega)]
theorem pad_one (l : List Nat) (c u : Nat) (h : l.length = 64 * c + u) (hu : u ≤ 55) : chunk (pad l) c = l.drop (64 * c) ++ [128] ++ List.replicate (55 - u) 0 ++ len8 l.length ∧ (pad l).length / 64 = c + 1 := by
  have hz : zeros l.length = 55 - u := by unfold zeros; omega
  constructor
  · unfold chunk pad
    rw [List.append_assoc, List.append_assoc, List.drop_append_of_le_length (by omega), List.take_of_length_le (by simp [len8, hz]; omega), hz]
    simp
  · rw [pad_len, hz]; omega
theorem pad_two (l : List Nat) (c u : Nat) (h : l.length = 64 * c + u) (h1 : 56 ≤ u) (h2 : u < 64) : chunk (pad l) c = l.drop (64 * c) ++ [128] ++ List.replicate (63 - u) 0 ∧ chunk (pad l) (c + 1) = List.replicate 56 0 ++ len8 l.length ∧ (pad l).length / 64 = c + 2 := by
  have hz : zeros l.length = (63 - u) + 56 := by unfold zeros; omega
  have hp : pad l = (l ++ [128] ++ List.replicate (63 - u) 0) ++ (List.replicate 56 0 ++ len8 l.length) := by
    unfold pad; rw [hz, replicate_add']; simp
  have hn : (l ++ [128] ++ List.replicate (63 - u) 0).length = 64 * (c + 1) := by simp; omega
  refine ⟨?_, ?_, ?_⟩
  · unfold chunk
    rw [hp, List.drop_append_of_le_length (by omega), List.take_append_of_le_length (by rw [List.length_drop, hn]; omega), List.take_of_length_le (by rw [List.length_drop, hn]; omega)]
    rw [List.append_assoc, List.drop_append_of_le_length (by omega), List.append_assoc]
  · unfold chunk
    rw [hp, ← hn, List.drop_left, List.take_of_length_le (by simp [len8])]
  · rw [pad_len, hz]; omega

theorem len8_length (n : Nat) : (len8 n).length = 8 := rfl
theorem len8_get (n k : Nat) (h : k < 8) : (len8 n).drop (7 - k) = (8 * n / 2 ^ (8 * k) % 256) :: (len8 n).drop (8 - k) := by
  match k, h with
  | 0, _ => simp [len8]
  | 1, _ => simp [len8]
  | 2, _ => simp [len8]
  | 3, _ => simp [len8]
  | 4, _ => simp [len8]
  | 5, _ => simp [len8]
  | 6, _ => simp [len8]
  | 7, _ => simp [len8]
  | k + 8, h => omega
/-- The block with the last k bytes of the length laid. -/
def lenB (base : List Nat) (n k : Nat) : List Nat := base.take (64 - k) ++ (len8 n).drop (8 - k)
theorem lenB_zero (base : List Nat) (n : Nat) (h : base.length = 64) : lenB base n 0 = base := by
  unfold lenB; rw [List.take_of_length_le (by omega)]; simp [len8]
theorem lenB_length (base : List Nat) (n k : Nat) (h : base.length = 64) (hk : k ≤ 8) : (lenB base n k).length = 64 := by
  simp [lenB, len8_length]; omega
theorem lenB_set (base : List Nat) (n k : Nat) (h : base.length = 64) (hk : k < 8) : (lenB base n k).set (63 - k) (8 * n / 2 ^ (8 * k) % 256) = lenB base n (k + 1) := by
  unfold lenB
  rw [show 64 - k = (63 - k) + 1 by omega, List.take_add_one, List.getElem?_eq_getElem (by omega), Option.toList_some, List.append_assoc, List.set_append_right _ _ (by simp; omega),
    show 63 - k - (base.take (63 - k)).length = 0 by simp; omega, show 64 - (k + 1) = 63 - k by omega, show 8 - (k + 1) = 7 - k by omega, len8_get n k hk]
  simp
theorem lenB_eight (base : List Nat) (n : Nat) : lenB base n 8 = base.take 56 ++ len8 n := by simp [lenB]

/-- What lies in the block once m bytes of r have been copied to place u. -/
def copied (bl : List Nat) (u : Nat) (r : List Nat) (m : Nat) : List Nat := bl.take u ++ r.take m ++ bl.drop (u + m)
theorem copied_length {bl r : List Nat} {u m : Nat} (h : bl.length = 64) (hm : m ≤ r.length) (hu : u + m ≤ 64) : (copied bl u r m).length = 64 := by
  simp [copied]; omega
theorem copied_take {bl r : List Nat} {u m : Nat} (h : bl.length = 64) (hm : m ≤ r.length) (hu : u + m ≤ 64) : (copied bl u r m).take (u + m) = bl.take u ++ r.take m := by
  unfold copied
  rw [List.take_append_of_le_length (by simp; omega), List.take_of_length_le (by simp; omega)]
/-- The stream x: of it the block holds what lies from 64 c on, u bytes; r is the next piece. -/
theorem copied_next {x bl r : List Nat} {c u m : Nat} (h : bl.length = 64) (hm : m ≤ r.length) (hu : u + m ≤ 64) (hx : 64 * c + u + r.length ≤ x.length)
    (h1 : bl.take u = (x.drop (64 * c)).take u) (h2 : (x.drop (64 * c + u)).take r.length = r) : (copied bl u r m).take (u + m) = (x.drop (64 * c)).take (u + m) := by
  rw [copied_take h hm hu, h1, List.take_add, List.drop_drop]
  congr 1
  conv => lhs; rw [← h2]
  rw [List.take_take, Nat.min_eq_left hm]
theorem rest_next {x r : List Nat} {p m : Nat} (hm : m ≤ r.length) (h2 : (x.drop p).take r.length = r) : (x.drop (p + m)).take (r.drop m).length = r.drop m := by
  conv => rhs; rw [← h2]
  rw [List.length_drop, ← List.drop_drop, List.drop_take]
theorem block_full {x bl : List Nat} {c : Nat} (h : bl.length = 64) (h1 : bl.take 64 = (x.drop (64 * c)).take 64) (hx : 64 * (c + 1) ≤ x.length) : bl = chunk (pad x) c := by
  rw [chunk_pad x c hx, ← h1, List.take_of_length_le (by omega)]
/-- The block with the mark laid and what follows cleared. -/
def marked (bl : List Nat) (u : Nat) : List Nat := bl.take u ++ [128] ++ List.replicate (63 - u) 0
theorem marked_of {bl : List Nat} {u : Nat} (h : bl.length = 64) (hu : u < 64) : (bl.set u 128).take (u + 1) ++ List.replicate (64 - (u + 1)) 0 = marked bl u := by
  unfold marked
  rw [List.take_add_one, List.getElem?_set_self (by omega), Option.toList_some, List.take_set_of_le (by omega), show 64 - (u + 1) = 63 - u by omega]
theorem marked_length {bl : List Nat} {u : Nat} (h : bl.length = 64) (hu : u < 64) : (marked bl u).length = 64 := by
  simp [marked]; omega
theorem marked_one {x bl : List Nat} {c u : Nat} (h : bl.length = 64) (hx : x.length = 64 * c + u) (hu : u ≤ 55) (h1 : bl.take u = (x.drop (64 * c)).take u) : lenB (marked bl u) x.length 8 = chunk (pad x) c := by
  rw [lenB_eight, (pad_one x c u hx hu).1]
  unfold marked
  rw [h1, List.take_of_length_le (l := x.drop (64 * c)) (by simp; omega)]
  congr 1
  rw [show 63 - u = (55 - u) + 8 by omega, replicate_add', ← List.append_assoc]
  rw [List.take_append_of_le_length (by simp; omega), List.take_of_length_le (by simp; omega)]
theorem marked_two {x bl : List Nat} {c u : Nat} (h : bl.length = 64) (hx : x.length = 64 * c + u) (hu1 : 56 ≤ u) (hu : u < 64) (h1 : bl.take u = (x.drop (64 * c)).take u) : marked bl u = chunk (pad x) c := by
  rw [(pad_two x c u hx hu1 hu).1]
  unfold marked
  rw [h1, List.take_of_length_le (l := x.drop (64 * c)) (by simp; omega)]
theorem zero_two {x : List Nat} {c u : Nat} (hx : x.length = 64 * c + u) (hu1 : 56 ≤ u) (hu : u < 64) : lenB (List.replicate 64 0) x.length 8 = chunk (pad x) (c + 1) := by
  rw [lenB_eight, (pad_two x c u hx hu1 hu).2.1]; simp

theorem blocks_fold (x : List Nat) (c : Nat) : (chunks x c).foldl compress start = blocks x c := by
  induction c with
  | zero => rfl
  | succ c ih => rw [chunks_succ, List.foldl_append, ih]; rfl
theorem pad_lt {l : List Nat} (h : ∀ x ∈ l, x < 256) : ∀ x ∈ pad l, x < 256 := by
  intro x hx
  simp only [pad, len8, List.mem_append, List.mem_cons, List.not_mem_nil, or_false, List.mem_replicate] at hx
  rcases hx with ((hx | rfl) | ⟨_, rfl⟩) | hx
  · exact h x hx
  · decide
  · decide
  · rcases hx with rfl | rfl | rfl | rfl | rfl | rfl | rfl | rfl <;> exact Nat.mod_lt _ (by decide)
theorem chunk_lt {l : List Nat} (h : ∀ x ∈ l, x < 256) (i : Nat) : ∀ x ∈ chunk l i, x < 256 := fun x hx => h x (List.mem_of_mem_drop (List.mem_of_mem_take hx))

/-- The parts, one after the other. -/
def joinN (l : List (List Nat)) (k : Nat) : List Nat := (l.take k).flatten
theorem joinN_zero (l : List (List Nat)) : joinN l 0 = [] := rfl
theorem joinN_succ (l : List (List Nat)) {k : Nat} (hk : k < l.length) : joinN l (k + 1) = joinN l k ++ l.getD k [] := by
  unfold joinN
  rw [List.take_add_one, List.flatten_append, List.getElem?_eq_getElem hk, List.getD_eq_getElem?_getD, List.getElem?_eq_getElem hk]
  simp
theorem joinN_all (l : List (List Nat)) : joinN l l.length = l.flatten := by simp [joinN]
theorem flat_split (l : List (List Nat)) (k : Nat) : l.flatten = joinN l k ++ (l.drop k).flatten := by
  have := congrArg List.flatten (List.take_append_drop k l)
  rw [List.flatten_append] at this; exact this.symm
theorem joinN_next (l : List (List Nat)) {k : Nat} (hk : k < l.length) : (l.flatten.drop (joinN l k).length).take (l.getD k []).length = l.getD k [] := by
  have h1 : l.flatten = joinN l (k + 1) ++ (l.drop (k + 1)).flatten := flat_split l (k + 1)
  rw [h1, joinN_succ l hk, List.append_assoc, List.drop_left, List.take_left]
theorem joinN_le (l : List (List Nat)) (k : Nat) : (joinN l k).length ≤ l.flatten.length := by
  have h1 := congrArg List.length (flat_split l k)
  rw [List.length_append] at h1; omega
end Go.Proofs.YtpapfegbodolgaaDoor
end

section
set_option linter.unusedSimpArgs false
set_option linter.unusedVariables false
namespace Go.Proofs.YtpapfegbodolgaaDoor
open Go.RowKit

set_option maxRecDepth 100000 in
set_option maxHeartbeats 400000 in
theorem ref_rotated (x n : Nat) (w : World) (hx : x < 4294967296) (hn : n ≤ 32) :
    Calls Tryd.prog 82 #[.int .u32 x, .int .i64 n] w fun e w' => e = .returned (.int .u32 (rotr x n)) ∧ w' = w.drew := by
  go_enter Tryd.func82, Tryd.ntmps82
  have hor : bits .or .u32 ((x : Int) / 2 ^ n) ((x : Int) * 2 ^ (32 - n) % 4294967296) = (rotr x n : Int) := by
    have hd : x / 2 ^ n < 4294967296 := Nat.lt_of_le_of_lt (Nat.div_le_self _ _) hx
    have := u32_or_nat (x / 2 ^ n) (x * 2 ^ (32 - n) % 4294967296) hd (by omega)
    unfold rotr
    rw [← this, Int.natCast_ediv, Int.natCast_emod, Int.natCast_mul, Int.natCast_pow, Int.natCast_pow]
    rfl
  go_wp2_with fail
  go_region
  go_wp2_with fail
  go_ret
  exact ⟨rfl, rfl⟩

set_option maxRecDepth 100000 in
set_option maxHeartbeats 400000 in
theorem ref_constants (w : World) :
    Calls Tryd.prog 83 #[] w fun e w' => e = .returned (.slice (some ⟨w.heap.size, 0, none⟩) 64 64) ∧ w' = w.alloc (.cells ((kTab.map fun (k : Nat) => Value.int .u32 (k : Int)).toArray) 101) := by
  go_enter Tryd.func83, Tryd.ntmps83
  go_wp2_with fail
  go_ret
  exact ⟨rfl, rfl⟩
end Go.Proofs.YtpapfegbodolgaaDoor
end

section
set_option linter.unusedSimpArgs false
set_option linter.unusedVariables false
namespace Go.Proofs.YtpapfegbodolgaaDoor
open Go.RowKit

theorem Tryd.info5 : (Tryd.prog.info? 5).map (fun i => (i.zero, i.size, i.bytes)) = some (some (.int .u8 0), 1, 1) := by kernel_rfl
def byteV (b : Nat) : Value := .int .u8 (b : Int)
def nums (s : ByteArray) : List Nat := s.data.toList.map (·.toNat)
theorem nums_len (s : ByteArray) : (nums s).length = s.size := by simp [nums]
theorem nums_take_succ (s : ByteArray) (k : Nat) (hk : k < s.size) : (nums s).take (k + 1) = (nums s).take k ++ [s[k].toNat] := by
  have hk' : k < (nums s).length := by rw [nums_len]; exact hk
  rw [List.take_add_one, List.getElem?_eq_getElem hk']
  congr 1
  simp [nums]
  rfl
theorem below_of_appendD {B : Nat} {a w w1 : World} {l : List Value} {n : Nat} {v : Value} {e : TypeId} {o : Obj} (hB : Below B a w) (hown : w.ownsRow B e 1 v n l) (hs : B ≤ w.heap.size)
    (hg : (w.alloc o).grownBy w1 v.ownBlock) : Below B a w1 := by
  refine (hB.alloc hs o).grown hg (by simp; omega) ?_
  intro k hk
  rcases hown.2 with ⟨rfl, _⟩ | ⟨g, cap, cur, rfl, _, hgb, _⟩
  · simp [Value.ownBlock] at hk
  · simp [Value.ownBlock] at hk
    omega

def lenOf : Value → Nat
  | .slice _ n _ => n
  | _ => 0
theorem len8_take (n p : Nat) (h : p < 8) : (len8 n).take (8 - (p + 1)) ++ [8 * n / 2 ^ (8 * p) % 256] = (len8 n).take (8 - p) := by
  match p, h with
  | 0, _ => simp [len8]
  | 1, _ => simp [len8]
  | 2, _ => simp [len8]
  | 3, _ => simp [len8]
  | 4, _ => simp [len8]
  | 5, _ => simp [len8]
  | 6, _ => simp [len8]
  | 7, _ => simp [len8]
  | p + 8, h => omega
theorem pad_length (l : List Nat) : (pad l).length = l.length + 9 + zeros l.length := by simp [pad, len8]; omega

set_option maxRecDepth 100000 in
set_option maxHeartbeats 1000000 in
theorem ref_extended (s : ByteArray) (w : World) (hs : s.size ≤ 100000) :
    Calls Tryd.prog 61 #[.string s] w fun e w' => ∃ v, e = .returned v ∧ w'.ownsRow w.heap.size 5 1 v (pad (nums s)).length ((pad (nums s)).map byteV) ∧ Below w.heap.size w w' := by
  obtain ⟨i0, hi, hz0, hz1, hz2⟩ := info_parts Tryd.info5
  go_enter Tryd.func61, Tryd.ntmps61
  go_wp2_with fail
  go_loopw [3, 4] (fun x i wr => ∃ k : Nat, k ≤ s.size ∧ i = .int .i64 k ∧ wr.ownsRow w.heap.size 5 1 x k (((nums s).take k).map byteV) ∧ Below w.heap.size w wr) (fun _ i _ => s.size - (intOf i).toNat)
  case atStart => exact ⟨0, by omega, rfl, World.ownsRow_nil _ _ _ _, Below.refl _ _⟩
  case round =>
    obtain ⟨k, hk, rfl, hown, hB⟩ := hrel
    by_cases hlt : k < s.size
    · have HT := Lib.hid (nums_take_succ s k hlt)
      go_wp2_with (at_builtin; refine wpList_append_own _ rfl _ _ 67 rfl w.heap.size 5 i0 (.int .u8 0) 1 1 Tryd.underlying67 hi hz0 hz1 hz2 rfl (by decide) _ _ _ rfl (hown.alloc _) ⟨wr.heap.size, 0, none⟩ 1 1 [.int .u8 (s[k].toNat : Int)] rfl rfl (cell_one_new _ _ _) (by simp [Value.oneCell']) (by unfold maxLen; omega) (by omega) (by have := hB.size; simp; omega) ?_; intro v' w1 hown' hgrow _)
      refine ⟨⟨k + 1, by omega, by go_num, ?_, below_of_appendD hB hown hB.size hgrow⟩, by simp [intOf]; omega⟩
      rw [HT.out, List.map_append]
      exact hown'
    · obtain rfl : k = s.size := by omega
      have HN := Lib.hid (show (nums s).take s.size = nums s from List.take_of_length_le (by rw [nums_len]; omega))
      rw [HN.out] at hown
      go_wp2_with (at_builtin; refine wpList_append_own _ rfl _ _ 67 rfl w.heap.size 5 i0 (.int .u8 0) 1 1 Tryd.underlying67 hi hz0 hz1 hz2 rfl (by decide) _ _ _ rfl (hown.alloc _) ⟨wr.heap.size, 0, none⟩ 1 1 [.int .u8 128] rfl rfl (cell_one_new _ _ _) (by simp [Value.oneCell']) (by unfold maxLen; omega) (by omega) (by have := hB.size; simp; omega) ?_; intro v' w1 hown' hgrow _)
      have hB1 := below_of_appendD hB hown hB.size hgrow
      have hown1 : w1.ownsRow w.heap.size 5 1 v' (s.size + 1) ((nums s ++ [128]).map byteV) := by rw [List.map_append]; exact hown'
      clear hown' hgrow hown hB HN
      obtain ⟨g1, c1, rfl⟩ := ownsRow_succ hown1
      go_loopw [3] (fun x wr => ∃ z : Nat, z ≤ zeros s.size ∧ wr.ownsRow w.heap.size 5 1 x (s.size + 1 + z) ((nums s ++ [128] ++ List.replicate z 0).map byteV) ∧ Below w.heap.size w wr) (fun x _ => s.size + 1 + zeros s.size - lenOf x)
      case atStart => exact ⟨0, by omega, by simpa using hown1, hB1⟩
      case round =>
        obtain ⟨z, hz, hown, hB⟩ := hrel
        rw [show s.size + 1 + z = s.size + z + 1 by omega] at hown
        obtain ⟨g2, c2, rfl⟩ := ownsRow_succ hown
        have hzd : zeros s.size < 64 := by unfold zeros; omega
        by_cases hlt : z < zeros s.size
        · have hne : (s.size + z + 1) % 64 ≠ 56 := by unfold zeros at hlt; omega
          go_wp2_with (at_builtin; refine wpList_append_own _ rfl _ _ 67 rfl w.heap.size 5 i0 (.int .u8 0) 1 1 Tryd.underlying67 hi hz0 hz1 hz2 rfl (by decide) _ _ _ rfl (hown.alloc _) ⟨wr.heap.size, 0, none⟩ 1 1 [.int .u8 0] rfl rfl (cell_one_new _ _ _) (by simp [Value.oneCell']) (by unfold maxLen; omega) (by omega) (by have := hB.size; simp; omega) ?_; intro v' w1 hown' hgrow _)
          refine ⟨⟨z + 1, by omega, ?_, below_of_appendD hB hown hB.size hgrow⟩, ?_⟩
          · rw [List.replicate_succ', ← List.append_assoc, List.map_append, show s.size + 1 + (z + 1) = s.size + z + 1 + 1 by omega]
            exact hown'
          · obtain ⟨g3, c3, rfl⟩ := ownsRow_succ hown'
            simp [lenOf]; omega
        · obtain rfl : z = zeros s.size := by omega
          have heq0 : (s.size + zeros s.size + 1) % 64 = 56 := by unfold zeros; omega
          have heq : (((s.size : Int) + (zeros s.size : Int) + 1) % 64 != 56) = false := by simp; omega
          clear heq0
          go_wp2_with fail
          go_loopw [3, 5] (fun x i wr => ∃ m : Nat, m ≤ 8 ∧ i = .int .i64 ((m : Int) - 1) ∧ wr.ownsRow w.heap.size 5 1 x (s.size + zeros s.size + 1 + (8 - m)) ((nums s ++ [128] ++ List.replicate (zeros s.size) 0 ++ (len8 s.size).take (8 - m)).map byteV) ∧ Below w.heap.size w wr) (fun _ i _ => (intOf i + 1).toNat)
          case atStart => exact ⟨8, by omega, rfl, by simpa using hown, hB⟩
          case round =>
            clear hown hB heq
            obtain ⟨m, hm, rfl, hown, hB⟩ := hrel
            cases m with
            | zero =>
              rw [show ((0 : Nat) : Int) - 1 = -1 from rfl]
              have HP := Lib.hid (show wr.ownsRow w.heap.size 5 1 u3 (pad (nums s)).length ((pad (nums s)).map byteV) from by
                have h8 : (len8 s.size).take 8 = len8 s.size := by simp [len8]
                rw [h8] at hown
                rw [pad_length, nums_len, show s.size + 9 + zeros s.size = s.size + zeros s.size + 1 + (8 - 0) by omega]
                unfold pad
                rw [nums_len]
                exact hown)
              go_wp2_with fail
              go_ret
              exact ⟨_, rfl, HP.out, hB⟩
            | succ p =>
              rw [show ((p + 1 : Nat) : Int) - 1 = (p : Int) from by omega]
              have HT := Lib.hid (len8_take s.size p (by omega))
              go_wp2_with (at_builtin; refine wpList_append_own _ rfl _ _ 67 rfl w.heap.size 5 i0 (.int .u8 0) 1 1 Tryd.underlying67 hi hz0 hz1 hz2 rfl (by decide) _ _ _ rfl (hown.alloc _) ⟨wr.heap.size, 0, none⟩ 1 1 [.int .u8 ((8 * s.size / 2 ^ (8 * p) % 256 : Nat) : Int)] rfl rfl (cell_one_new _ _ _) (by simp [Value.oneCell']) (by unfold maxLen; omega) (by omega) (by have := hB.size; simp; omega) ?_; intro v' w1 hown' hgrow _)
              refine ⟨⟨p, by omega, rfl, ?_, below_of_appendD hB hown hB.size hgrow⟩, by simp [intOf]⟩
              rw [← HT.out, ← List.append_assoc, List.map_append, show s.size + zeros s.size + 1 + (8 - p) = s.size + zeros s.size + 1 + (8 - (p + 1)) + 1 by omega]
              exact hown'
end Go.Proofs.YtpapfegbodolgaaDoor
end

section
set_option linter.unusedSimpArgs false
set_option linter.unusedVariables false
namespace Go.Proofs.YtpapfegbodolgaaDoor
open Go.RowKit

theorem ret_intD {k : IntKind} {a b : Int} (h : a = b) : Ending.returned (.int k a) = .returned (.int k b) := by rw [h]
theorem neg_and31 (n : Nat) (h1 : 1 ≤ n) (h2 : n ≤ 31) : bits .and .u64 (IntKind.u64.wrap (-(n : Int))) 31 = ((32 - n : Nat) : Int) := by
  match n, h1, h2 with
  | n + 1, _, h2 =>
    have : n < 31 := by omega
    have h : ∀ m : Fin 31, bits .and .u64 (IntKind.u64.wrap (-((m.val + 1 : Nat) : Int))) 31 = ((32 - (m.val + 1) : Nat) : Int) := by decide +kernel
    exact h ⟨n, this⟩

set_option maxRecDepth 100000 in
set_option maxHeartbeats 400000 in
theorem rotl_any (x n : Nat) (w : World) (hx : x < 4294967296) (h1 : 1 ≤ n) (h2 : n ≤ 31) :
    Calls Tryd.prog 105 #[.int .u32 x, .int .i64 (-(n : Int))] w fun e w' => e = .returned (.int .u32 (rotr x n)) ∧ w' = w := by
  go_enter Tryd.func105, Tryd.ntmps105
  have hA := neg_and31 n h1 h2
  have HO : Hid (bits .or .u32 ((x : Int) * 2 ^ (32 - n) % 4294967296) ((x : Int) / 2 ^ (32 - (32 - n))) = (rotr x n : Int)) := Lib.hid (by
    have hd : x / 2 ^ n < 4294967296 := Nat.lt_of_le_of_lt (Nat.div_le_self _ _) hx
    have := u32_or_nat (x * 2 ^ (32 - n) % 4294967296) (x / 2 ^ n) (by omega) hd
    unfold rotr
    rw [Nat.or_comm, ← this, Int.natCast_ediv, Int.natCast_emod, Int.natCast_mul, Int.natCast_pow, Int.natCast_pow, show 32 - (32 - n) = n from by omega]
    rfl)
  go_wp2_with fail
  go_ret
  exact ⟨ret_intD HO.out, rfl⟩

set_option maxRecDepth 100000 in
set_option maxHeartbeats 400000 in
theorem right_any (x n : Nat) (w : World) (hx : x < 4294967296) (h1 : 1 ≤ n) (h2 : n ≤ 31) :
    Calls Tryd.prog 103 #[.int .u32 x, .int .i64 n] w fun e w' => e = .returned (.int .u32 (rotr x n)) ∧ w' = w := by
  go_enter Tryd.func103, Tryd.ntmps103
  go_wp2_with fail
  refine (rotl_any x n _ hx h1 h2).mono ?_
  rintro e w' ⟨rfl, rfl⟩
  go_wp2_with fail
  go_ret
  exact ⟨rfl, rfl⟩

theorem right_at (x n : Nat) (m : Int) (w : World) (hx : x < 4294967296) (hm : m = (n : Int)) (h1 : 1 ≤ n) (h2 : n ≤ 31) :
    Calls Tryd.prog 103 #[.int .u32 x, .int .i64 m] w fun e w' => e = .returned (.int .u32 (rotr x n)) ∧ w' = w := by
  subst hm; exact right_any x n w hx h1 h2

/-- A block of cells that may be written. -/
def Blk (w : World) (B : Nat) (cs : List Value) (T : TypeId) : Prop := w.heap[B]? = some (.cells cs.toArray T (0, 0))
theorem Blk.lt {w : World} {B : Nat} {cs : List Value} {T : TypeId} (h : Blk w B cs T) : B < w.heap.size := (Array.getElem?_eq_some_iff.1 h).1
theorem Blk.cell {w : World} {B : Nat} {cs : List Value} {T : TypeId} (h : Blk w B cs T) {j : Nat} (hj : j < cs.length) : w.cell? ⟨B, j, none⟩ = some (cs[j]) := by
  have h := h
  unfold Blk at h
  simp [World.cell?, h, hj]
theorem Blk.frozen {w : World} {B : Nat} {cs : List Value} {T : TypeId} (h : Blk w B cs T) {j : Nat} : w.frozen? ⟨B, j, none⟩ = false := by
  have h := h
  unfold Blk at h
  simp [World.frozen?, h]
theorem Blk.set {w : World} {B : Nat} {cs : List Value} {T : TypeId} (h : Blk w B cs T) (j : Nat) (v : Value) : Blk (w.setCell ⟨B, j, none⟩ v) B (cs.set j v) T := by
  have h := h
  unfold Blk at h ⊢
  obtain ⟨hlt, hk⟩ := Array.getElem?_eq_some_iff.1 h
  show (w.heap.modify B _)[B]? = _
  rw [Array.getElem?_eq_getElem (by rw [Array.size_modify]; exact hlt), Array.getElem_modify_self, hk]
  simp
theorem Blk.drew {w : World} {B : Nat} {cs : List Value} {T : TypeId} (h : Blk w B cs T) : Blk w.drew B cs T := h
theorem Blk.drewN {w : World} {B : Nat} {cs : List Value} {T : TypeId} (h : Blk w B cs T) (n : Nat) : Blk (w.drewN n) B cs T := by
  have : (w.drewN n).heap = w.heap := by simp
  unfold Blk; rw [this]; exact h
theorem Blk.below {w w' : World} {B : Nat} {cs : List Value} {T : TypeId} (h : Blk w B cs T) (hb : Below w.heap.size w w') : Blk w' B cs T := (hb.block B h.lt).trans h
theorem Blk.belowB {w w' : World} {B n : Nat} {cs : List Value} {T : TypeId} (h : Blk w B cs T) (hn : B < n) (hb : Below n w w') : Blk w' B cs T := (hb.block B hn).trans h
theorem Blk.alloc {w : World} {B : Nat} {cs : List Value} {T : TypeId} (h : Blk w B cs T) (o : Obj) : Blk (w.alloc o) B cs T := (Below.heap_alloc w o B h.lt).trans h
theorem Blk.new (w : World) (cs : List Value) (T : TypeId) : Blk (w.alloc (.cells cs.toArray T)) w.heap.size cs T := heap_alloc_new w _
end Go.Proofs.YtpapfegbodolgaaDoor
end

section
set_option linter.unusedSimpArgs false
set_option linter.unusedVariables false
namespace Go.Proofs.YtpapfegbodolgaaDoor
open Go.RowKit

def wordV (b : Nat) : Value := .int .u32 (b : Int)
theorem getD_lt {l : List Nat} {k m : Nat} (h : ∀ x ∈ l, x < m) (hk : k < l.length) : l.getD k 0 < m := by
  rw [List.getD_eq_getElem?_getD, List.getElem?_eq_getElem hk]
  exact h _ (List.getElem_mem hk)
theorem or_add (a b k : Nat) (h : b < 2 ^ k) : (a * 2 ^ k ||| b) = a * 2 ^ k + b := by
  rw [Nat.mul_comm, Nat.two_pow_add_eq_or_of_lt h]
theorem or_add24 {x0 x1 : Nat} (h0 : x0 < 256) (h1 : x1 < 256) : bits .or .u32 ((x0 : Int) * 16777216) ((x1 : Int) * 65536) = (x0 : Int) * 16777216 + (x1 : Int) * 65536 := by
  have := u32_or_nat (x0 * 16777216) (x1 * 65536) (by omega) (by omega)
  rw [show x0 * 16777216 = x0 * 2 ^ 24 from by omega, or_add x0 (x1 * 65536) 24 (by omega)] at this
  rw [show ((x0 : Int) * 16777216) = ((x0 * 2 ^ 24 : Nat) : Int) by omega, show ((x1 : Int) * 65536) = ((x1 * 65536 : Nat) : Int) by omega, this]
  omega
theorem or_add16 {x0 x1 x2 : Nat} (h0 : x0 < 256) (h1 : x1 < 256) (h2 : x2 < 256) : bits .or .u32 ((x0 : Int) * 16777216 + (x1 : Int) * 65536) ((x2 : Int) * 256) = (x0 : Int) * 16777216 + (x1 : Int) * 65536 + (x2 : Int) * 256 := by
  have := u32_or_nat (x0 * 16777216 + x1 * 65536) (x2 * 256) (by omega) (by omega)
  rw [show x0 * 16777216 + x1 * 65536 = (x0 * 256 + x1) * 2 ^ 16 from by omega, or_add (x0 * 256 + x1) (x2 * 256) 16 (by omega)] at this
  rw [show ((x0 : Int) * 16777216 + (x1 : Int) * 65536) = (((x0 * 256 + x1) * 2 ^ 16 : Nat) : Int) by omega, show ((x2 : Int) * 256) = ((x2 * 256 : Nat) : Int) by omega, this]
  omega
theorem or_add8 {x0 x1 x2 x3 : Nat} (h0 : x0 < 256) (h1 : x1 < 256) (h2 : x2 < 256) (h3 : x3 < 256) : bits .or .u32 ((x0 : Int) * 16777216 + (x1 : Int) * 65536 + (x2 : Int) * 256) (x3 : Int) = (x0 : Int) * 16777216 + (x1 : Int) * 65536 + (x2 : Int) * 256 + (x3 : Int) := by
  have := u32_or_nat (x0 * 16777216 + x1 * 65536 + x2 * 256) x3 (by omega) (by omega)
  rw [show x0 * 16777216 + x1 * 65536 + x2 * 256 = (x0 * 65536 + x1 * 256 + x2) * 2 ^ 8 from by omega, or_add (x0 * 65536 + x1 * 256 + x2) x3 8 (by omega)] at this
  rw [show ((x0 : Int) * 16777216 + (x1 : Int) * 65536 + (x2 : Int) * 256) = (((x0 * 65536 + x1 * 256 + x2) * 2 ^ 8 : Nat) : Int) by omega, this]
  omega
theorem below_of_append' {B : Nat} {a w w1 : World} {l : List Value} {n : Nat} {v : Value} {e : TypeId} {o : Obj} (hB : Below B a w) (hown : w.ownsRow B e 1 v n l) (hs : B ≤ w.heap.size)
    (hg : (w.alloc o).drew.grownBy w1 v.ownBlock) : Below B a w1 := by
  refine (hB.alloc hs o).drew.grown hg (by simp; omega) ?_
  intro k hk
  rcases hown.2 with ⟨rfl, _⟩ | ⟨g, cap, cur, rfl, _, hgb, _⟩
  · simp [Value.ownBlock] at hk
  · simp [Value.ownBlock] at hk
    omega
theorem sched_length (b : List Nat) (k : Nat) : (sched b k).length = k := by
  induction k with
  | zero => rfl
  | succ k ih => simp [sched, ih]
theorem word_lt {b : List Nat} (hb : b.length = 64) (h8 : ∀ x ∈ b, x < 256) {k : Nat} (hk : k < 16) : word b k < 4294967296 := by
  have h0 := getD_lt h8 (show 4 * k < b.length by omega)
  have h1 := getD_lt h8 (show 4 * k + 1 < b.length by omega)
  have h2 := getD_lt h8 (show 4 * k + 2 < b.length by omega)
  have h3 := getD_lt h8 (show 4 * k + 3 < b.length by omega)
  unfold word
  omega
theorem sched_lt {b : List Nat} (hb : b.length = 64) (h8 : ∀ x ∈ b, x < 256) (k : Nat) : ∀ x ∈ sched b k, x < 4294967296 := by
  induction k with
  | zero => simp [sched]
  | succ k ih =>
    intro x hx
    simp only [sched, List.mem_append, List.mem_singleton] at hx
    rcases hx with hx | hx
    · exact ih x hx
    · subst hx
      split
      · exact word_lt hb h8 ‹_›
      · exact Nat.mod_lt _ (by decide)
theorem own_cell {W : World} {B g c n : Nat} {l : List Nat} (h : W.ownsRow B 101 1 (.slice (some ⟨g, 0, none⟩) n c) n (l.map wordV)) {j : Nat} (hj : j < l.length) : W.cell? ⟨g, j, none⟩ = some (.int .u32 (l.getD j 0 : Nat)) := by
  have := h.cells (g := g) rfl j (wordV (l.getD j 0)) (by simp [hj])
  rw [show (⟨g, 0, none⟩ : Addr).add j = ⟨g, j, none⟩ from by unfold Addr.add; split <;> simp_all] at this
  exact this
theorem own_form {W : World} {B k : Nat} {e : TypeId} {x : Value} {xs : List Value} (hk : 0 < k) (h : W.ownsRow B e 1 x k xs) : ∃ g c, x = .slice (some ⟨g, 0, none⟩) k c := by
  obtain ⟨q, rfl⟩ : ∃ q, k = q + 1 := ⟨k - 1, by omega⟩
  exact ownsRow_succ h
theorem rotr_lt {x n : Nat} (h : x < 4294967296) : rotr x n < 4294967296 :=
  Nat.or_lt_two_pow (n := 32) (Nat.lt_of_le_of_lt (Nat.div_le_self _ _) h) (Nat.mod_lt _ (by decide))
theorem own_lt {W : World} {B g c n : Nat} {e : TypeId} {xs : List Value} (h : W.ownsRow B e 1 (.slice (some ⟨g, 0, none⟩) n c) n xs) : g < W.heap.size := by
  rcases h.2 with ⟨h0, _⟩ | ⟨g', cap, cur, h0, _, hgb, _⟩
  · simp at h0
  · simp at h0
    obtain ⟨rfl, _⟩ := h0
    exact (Array.getElem?_eq_some_iff.1 hgb).1
def St.ok (s : St) : Prop := s.a < 4294967296 ∧ s.b < 4294967296 ∧ s.c < 4294967296 ∧ s.d < 4294967296 ∧ s.e < 4294967296 ∧ s.f < 4294967296 ∧ s.g < 4294967296 ∧ s.h < 4294967296
theorem step_ok {s : St} (h : s.ok) (k w : Nat) : (s.step k w).ok := by
  obtain ⟨h1, h2, h3, h4, h5, h6, h7, h8⟩ := h
  exact ⟨Nat.mod_lt _ (by decide), h1, h2, h3, Nat.mod_lt _ (by decide), h5, h6, h7⟩
theorem rounds_ok {L : List Nat} {s : St} (h : s.ok) (k : Nat) : (rounds L s k).ok := by
  induction k with
  | zero => exact h
  | succ k ih => exact step_ok ih _ _
theorem add_ok (s r : St) : (s.add r).ok := ⟨Nat.mod_lt _ (by decide), Nat.mod_lt _ (by decide), Nat.mod_lt _ (by decide), Nat.mod_lt _ (by decide), Nat.mod_lt _ (by decide), Nat.mod_lt _ (by decide), Nat.mod_lt _ (by decide), Nat.mod_lt _ (by decide)⟩
theorem kTab_lt : ∀ x ∈ kTab, x < 4294967296 := by decide

theorem Blk.setOther {w : World} {B : Nat} {cs : List Value} {T : TypeId} (h : Blk w B cs T) {a : Addr} (ha : a.block ≠ B) (v : Value) : Blk (w.setCell a v) B cs T := by
  have h := h
  unfold Blk at h ⊢
  obtain ⟨hlt, hk⟩ := Array.getElem?_eq_some_iff.1 h
  show (w.heap.modify a.block _)[B]? = _
  rw [Array.getElem?_eq_getElem (by rw [Array.size_modify]; exact hlt), Array.getElem_modify_of_ne ha, hk]

/-- A WHOLE ARRAY STORED INTO A BLOCK. -/
theorem wpList_store_row {P : Program} {ops : Array Oper} {rest : List Oper} {o : Oper} {a : Act} {w : World} {Q : Exit → Act → World → Prop} (hgd : o.guard = none) (ty : TypeId) (x y : Operand) (ho : o.op = .store ty x y)
    (g : Nat) (hx : a.eval x = .pointer (some ⟨g, 0, none⟩)) (t : TypeId) (old cs : Array Value) (hy : a.eval y = .agg cs) (hg : w.heap[g]? = some (.cells old t (0, 0)))
    (hi : (P.info? ty).map (·.size) = some cs.size) (hs : old.size = cs.size) (h1 : cs.all (·.oneCell') = true)
    (h : wpList P ops Q rest (a.put o.dst undef) (w.setRow g cs)) : wpList P ops Q (o :: rest) a w :=
  wpList_plain hgd fun _ hK => wp_store_row ty x y ho g cs hx hy t old hg hi hs h1 (hK _ _ h)
theorem Blk.setRow {w : World} {B : Nat} {cs : List Value} {T : TypeId} (h : Blk w B cs T) (l : List Value) : Blk (w.setRow B l.toArray) B l T := setRow_heap w B _ _ T _ h
theorem Blk.setRowOther {w : World} {B : Nat} {cs : List Value} {T : TypeId} (h : Blk w B cs T) {g : Nat} (hg : B ≠ g) (l : Array Value) : Blk (w.setRow g l) B cs T := (setRow_other w g B l hg).trans h
theorem below_setRow {B : Nat} {a w : World} (h : Below B a w) {g : Nat} (hg : B ≤ g) (l : Array Value) : Below B a (w.setRow g l) :=
  h.trans ⟨rfl, rfl, rfl, by simp, fun k hk => setRow_other w g k l (by omega)⟩

/-- The cells of numbers. -/
def bytesV (l : List Nat) : List Value := l.map byteV
def wordsV (l : List Nat) : List Value := l.map wordV
theorem wordsV_one (l : List Nat) : (wordsV l).toArray.all (·.oneCell') = true := by
  simp [wordsV, wordV, Value.oneCell']
theorem bytesV_one (l : List Nat) : (bytesV l).toArray.all (·.oneCell') = true := by
  simp [bytesV, byteV, Value.oneCell']
theorem bytesV_cell {w : World} {B : Nat} {l : List Nat} {T : TypeId} (h : Blk w B (bytesV l) T) {j : Nat} (hj : j < l.length) : w.cell? ⟨B, j, none⟩ = some (.int .u8 ((l.getD j 0 : Nat) : Int)) := by
  rw [h.cell (by simpa [bytesV] using hj)]
  simp [bytesV, byteV, List.getD, hj]
theorem wordsV_cell {w : World} {B : Nat} {l : List Nat} {T : TypeId} (h : Blk w B (wordsV l) T) {j : Nat} (hj : j < l.length) : w.cell? ⟨B, j, none⟩ = some (.int .u32 ((l.getD j 0 : Nat) : Int)) := by
  rw [h.cell (by simpa [wordsV] using hj)]
  simp [wordsV, wordV, List.getD, hj]
/-- The first k words of the schedule, the others 0. -/
def schW (b : List Nat) (k : Nat) : List Nat := sched b k ++ List.replicate (64 - k) 0
theorem schW_length (b : List Nat) {k : Nat} (hk : k ≤ 64) : (schW b k).length = 64 := by simp [schW, sched_length]; omega
theorem schW_set (b : List Nat) {k x : Nat} (hk : k < 64) (h : sched b (k + 1) = sched b k ++ [x]) : (schW b k).set k x = schW b (k + 1) := by
  unfold schW
  rw [h, List.set_append_right _ _ (by rw [sched_length]; omega), sched_length, Nat.sub_self, show 64 - k = (64 - (k + 1)) + 1 by omega, List.replicate_succ, List.set_cons_zero]
  simp
theorem schW_getD (b : List Nat) {k j : Nat} (hj : j < k) : (schW b k).getD j 0 = (sched b k).getD j 0 := by
  unfold schW
  rw [List.getD_eq_getElem?_getD, List.getElem?_append_left (by rw [sched_length]; exact hj), ← List.getD_eq_getElem?_getD]
theorem wordsV_set (l : List Nat) (k x : Nat) : (wordsV l).set k (.int .u32 (x : Int)) = wordsV (l.set k x) := by
  simp [wordsV, List.map_set, wordV]
theorem bytesV_set (l : List Nat) (k x : Nat) : (bytesV l).set k (.int .u8 (x : Int)) = bytesV (l.set k x) := by
  simp [bytesV, List.map_set, byteV]
end Go.Proofs.YtpapfegbodolgaaDoor
end
