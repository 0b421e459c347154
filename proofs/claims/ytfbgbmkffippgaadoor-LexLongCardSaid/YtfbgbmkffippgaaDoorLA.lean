/- lex: words of a text, in plain. -/
import Derived.Test.YtfbgbmkffippgaaDoorVA
import Derived.Lib.ParseIntB
namespace Go.Proofs.YtfbgbmkffippgaaDoor
open Go Go.RowKit

def isLet (c : UInt8) : Bool := (decide (97 ≤ c.toNat) && decide (c.toNat ≤ 122)) || decide (c.toNat = 95)
def isDig (c : UInt8) : Bool := decide (48 ≤ c.toNat) && decide (c.toNat ≤ 57)
def isBet (c : UInt8) : Bool := decide (c.toNat = 32) || decide (c.toNat = 9) || decide (c.toNat = 10)
def isNam (c : UInt8) : Bool := isLet c || isDig c
/-- Where the bytes that p takes end, from k on. -/
def runF (p : UInt8 → Bool) (l : List UInt8) (k : Nat) : Nat := k + ((l.drop k).takeWhile p).length
section
variable {p : UInt8 → Bool} {l : List UInt8} {k : Nat}
theorem runF_yes (h : k < l.length) (hp : p l[k] = true) : runF p l (k + 1) = runF p l k := by
  unfold runF
  rw [List.drop_eq_getElem_cons h, List.takeWhile_cons_of_pos hp, List.length_cons]
  omega
theorem runF_no (h : k < l.length) (hp : p l[k] = false) : runF p l k = k := by
  unfold runF
  rw [List.drop_eq_getElem_cons h, List.takeWhile_cons_of_neg (by rw [hp]; exact Bool.false_ne_true)]
  rfl
theorem runF_end (h : l.length ≤ k) : runF p l k = k := by
  unfold runF
  rw [List.drop_eq_nil_of_le h]
  rfl
theorem runF_le (h : k ≤ l.length) : runF p l k ≤ l.length := by
  unfold runF
  have h1 := (List.takeWhile_prefix p (l := l.drop k)).length_le
  rw [List.length_drop] at h1
  omega
theorem runF_ge : k ≤ runF p l k := by unfold runF; omega
theorem takeWhile_all (p : UInt8 → Bool) : ∀ (l : List UInt8), (∀ x ∈ l, p x = true) → l.takeWhile p = l
  | [], _ => rfl
  | a :: r, h => by rw [List.takeWhile_cons_of_pos (h a List.mem_cons_self), takeWhile_all p r (fun x hx => h x (List.mem_cons_of_mem _ hx))]
theorem runF_all (h : ∀ j, (hj : j < l.length) → k ≤ j → p l[j] = true) (hk : k ≤ l.length) : runF p l k = l.length := by
  unfold runF
  have : (l.drop k).takeWhile p = l.drop k := by
    refine takeWhile_all p _ (fun x hx => ?_)
    obtain ⟨i, hi, rfl⟩ := List.mem_iff_getElem.1 hx
    rw [List.getElem_drop]
    exact h _ _ (by omega)
  rw [this, List.length_drop]
  omega
end
/-- How many bytes of a name, a number, a text, a sign begin here; 0: it is at fault. -/
def nameN (l : List UInt8) : Nat := if 12 < runF isNam l 1 then 0 else runF isNam l 1
def writ (l : List UInt8) : Bool := match Lib.parseIntB 64 l with
  | .ok v => decide (Lib.itoa v = l)
  | _ => false
def letAt (l : List UInt8) (n : Nat) : Bool := match l[n]? with
  | some c => isLet c
  | none => false
def numN (l : List UInt8) : Nat := if letAt l (runF isDig l 1) || !writ (l.take (runF isDig l 1)) then 0 else runF isDig l 1
def notQ (c : UInt8) : Bool := decide (c.toNat ≠ 39)
def textN (l : List UInt8) : Nat := if l.length ≤ runF notQ l 1 then 0 else if mayT ((l.drop 1).take (runF notQ l 1 - 1)) then runF notQ l 1 + 1 else 0
def sign2 (t : List UInt8) : Bool := (t == [33, 61]) || ((t == [60, 61]) || ((t == [62, 61]) || (t == [45, 62])))
def sign1 (c : UInt8) : Bool := ((c.toNat : Int) == 40) || (((c.toNat : Int) == 41) || (((c.toNat : Int) == 44) || (((c.toNat : Int) == 46) || (((c.toNat : Int) == 61) || (((c.toNat : Int) == 60) || (((c.toNat : Int) == 62) || (((c.toNat : Int) == 35) || ((c.toNat : Int) == 36))))))))
def signN (l : List UInt8) : Nat := if decide (1 < l.length) && sign2 (l.take 2) then 2 else match l with
  | c :: _ => if sign1 c then 1 else 0
  | [] => 0
def numAt (c : UInt8) (r : List UInt8) : Bool := isDig c || (decide (c.toNat = 45) && (match r with
  | d :: _ => isDig d
  | [] => false))
def wordN (l : List UInt8) : Int × Nat := match l with
  | [] => (4, 0)
  | c :: r => if isLet c then (1, nameN (c :: r)) else if numAt c r then (2, numN (c :: r)) else if decide (c.toNat = 39) then (3, textN (c :: r)) else (4, signN (c :: r))
abbrev Tok := Int × ByteArray × Int
def cellsK (l : List Tok) : List Value := l.flatMap fun t => [.int .i64 t.1, .string t.2.1, .int .i64 t.2.2]
/-- The words of l from at on, behind those that were read; none, and the byte at fault. -/
def scanR (l : List UInt8) : Nat → Nat → List Tok → Option (List Tok) × Int
  | 0, at', acc => (some (acc ++ [(5, ⟨#[]⟩, (at' : Int))]), -1)
  | f + 1, at', acc => match l.drop at' with
    | [] => (some (acc ++ [(5, ⟨#[]⟩, (at' : Int))]), -1)
    | c :: r => if isBet c then scanR l f (at' + 1) acc else
      if (wordN (c :: r)).2 = 0 then (none, (at' : Int)) else scanR l f (at' + (wordN (c :: r)).2) (acc ++ [((wordN (c :: r)).1, ⟨((c :: r).take (wordN (c :: r)).2).toArray⟩, (at' : Int))])
def scanP (l : List UInt8) : Option (List Tok) × Int := scanR l l.length 0 []
theorem nameN_le {l : List UInt8} (h : 1 ≤ l.length) : nameN l ≤ l.length := by
  unfold nameN
  have := runF_le (p := isNam) h
  split <;> omega
theorem numN_le {l : List UInt8} (h : 1 ≤ l.length) : numN l ≤ l.length := by
  unfold numN
  have := runF_le (p := isDig) h
  split <;> omega
theorem textN_le {l : List UInt8} (h : 1 ≤ l.length) : textN l ≤ l.length := by
  unfold textN
  have := runF_le (p := notQ) h
  split
  · omega
  · split <;> omega
theorem signN_le {l : List UInt8} : signN l ≤ l.length := by
  unfold signN
  split
  · rename_i h
    rw [Bool.and_eq_true, decide_eq_true_eq] at h
    exact h.1
  · cases l with
    | nil => exact Nat.zero_le _
    | cons c r =>
      show (if sign1 c then 1 else 0) ≤ (c :: r).length
      rw [List.length_cons]
      split <;> omega
theorem wordN_le {l : List UInt8} : (wordN l).2 ≤ l.length := by
  cases l with
  | nil => exact Nat.zero_le _
  | cons c r =>
    have h1 : 1 ≤ (c :: r).length := by rw [List.length_cons]; omega
    show (if isLet c then ((1 : Int), nameN (c :: r)) else if numAt c r then (2, numN (c :: r)) else if decide (c.toNat = 39) then (3, textN (c :: r)) else (4, signN (c :: r))).2 ≤ _
    by_cases a1 : isLet c = true
    · rw [if_pos a1]; exact nameN_le h1
    rw [if_neg a1]
    by_cases a2 : numAt c r = true
    · rw [if_pos a2]; exact numN_le h1
    rw [if_neg a2]
    by_cases a3 : decide (c.toNat = 39) = true
    · rw [if_pos a3]; exact textN_le h1
    rw [if_neg a3]
    exact signN_le
end Go.Proofs.YtfbgbmkffippgaaDoor
