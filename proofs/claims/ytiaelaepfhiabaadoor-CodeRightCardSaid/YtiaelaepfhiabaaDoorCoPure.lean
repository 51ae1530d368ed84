/-
  Programs as data: which may be (layer 11). Pure, no conditions.
-/
set_option linter.unusedVariables false
set_option linter.unusedSimpArgs false
namespace Go.Proofs.YtiaelaepfhiabaaDoor.Co

structure In where
  op : Int
  x : Int
  y : Int
  z : Int
  nd : Int
  ph : Int
deriving DecidableEq, Inhabited

def withinB (x a b : Int) : Bool := decide (a ≤ x) && decide (x ≤ b)
def opAt (l : List In) (k : Int) : Int := (l.getD k.toNat default).op
def aheadB (l : List In) (a t : Int) : Bool := decide (a < t) && decide (t < l.length)
def wayB (l : List In) (a t : Int) : Bool := aheadB l a t && (opAt l t == 5)
def aroundB (l : List In) (a : Nat) (t : Int) : Bool := withinB t 0 (a - 1) && ((l.getD t.toNat default).op == 8) && ((l.getD t.toNat default).x == (l.getD a default).x) && decide ((a : Int) < (l.getD t.toNat default).y)
def fitsB (l : List In) (ns nk : Nat) (g : Int) (a : Nat) (i : In) : Bool :=
  if i.op = 1 then withinB i.x 0 (ns - 1) && i.y == 0 && i.z == 0
  else if i.op = 2 then withinB i.x 1 7 && i.y == 0 && i.z == 0
  else if i.op = 3 then withinB i.x 1 g && (i.y == 0 || i.y == 1) && i.z == 0
  else if i.op = 4 then wayB l a i.x && i.y == 0 && i.z == 0
  else if i.op = 5 then (i.x == -1 || wayB l a i.x) && i.y == 0 && i.z == 0
  else if i.op = 6 then aheadB l a i.x && i.y == 0 && i.z == 0
  else if i.op = 7 ∨ i.op = 9 then withinB i.x 0 (nk - 1) && i.y == 0 && i.z == 0
  else if i.op = 8 then withinB i.x 0 (nk - 1) && aheadB l a i.y && aheadB l a i.z && wayB l a (a + 1)
  else if i.op = 10 then withinB i.x 0 (nk - 1) && aroundB l a i.y && i.z == 0
  else if i.op = 11 ∨ i.op = 12 then withinB i.x 1 g && i.y == 0 && i.z == 0
  else if i.op = 13 then (i.x == -1 || aheadB l a i.x) && i.y == 0 && i.z == 0
  else if i.op = 14 then withinB i.x 0 i.y && decide (i.y ≤ 255) && i.z == 0
  else i.x == 0 && i.y == 0 && i.z == 0
/-- an instruction has what there may be in it -/
def formB (l : List In) (ns nk : Nat) (g : Int) (a : Nat) (i : In) : Bool := withinB i.op 1 19 && withinB i.nd 0 16384 && withinB i.ph 0 16384 && fitsB l ns nk g a i
def formedB (l : List In) (ns nk : Nat) (g : Int) : Bool := (List.range l.length).all fun a => formB l ns nk g a (l.getD a default)
def endIx (l : List In) : Int := match l.findIdx? (fun i => i.op == 19) with | some k => k | none => -1
def endedB (l : List In) : Bool := decide (0 ≤ endIx l) && decide (endIx l = (l.length : Int) - 1)
/-- a loop's counts -/
def rightC (c : Int × Int × Int) : Bool := (c.2.1 == -1 || withinB c.2.1 (max 1 c.1) 1000) && withinB c.1 0 1000 && (c.2.2 == 0 || c.2.2 == 1)
def bearsB (op m : Int) : Bool := if op = 14 ∨ op = 15 ∨ op = 16 ∨ op = 17 ∨ op = 18 then decide (0 < m) else if op = 19 then m == 0 else true
/-- where an instruction leads: places, and how many barriers there are then -/
def stepsP (i : In) (a : Nat) (m : Int) : List (Int × Int) :=
  if i.op = 4 then [((a : Int) + 1, m), (i.x, m)]
  else if i.op = 5 then (if i.x = -1 then [((a : Int) + 1, m)] else [((a : Int) + 1, m), (i.x, m)])
  else if i.op = 8 then [((a : Int) + 1, m), (i.y, m), (i.z, m)]
  else if i.op = 6 then [(i.x, m)]
  else if i.op = 10 then [(i.y, m)]
  else if i.op = 13 then (if i.x = -1 then [((a : Int) + 1, m + 1)] else [((a : Int) + 1, m + 1), (i.x, m)])
  else if i.op = 16 ∨ i.op = 17 then [((a : Int) + 1, m - 1)]
  else if i.op = 18 ∨ i.op = 19 then []
  else [((a : Int) + 1, m)]

/-- WHERE THE PLACE 0 LEADS, on and on, with how many barriers -/
inductive Rb (l : List In) : Nat → Int → Prop
  | zero : Rb l 0 0
  | step {a : Nat} {m : Int} {t : Nat} {n : Int} (h : Rb l a m) (hb : ∀ i, l[a]? = some i → bearsB i.op m = true) (i : In) (hi : l[a]? = some i) (hs : ((t : Int), n) ∈ stepsP i a m) : Rb l t n
/-- always as many barriers at each place, and as many as are needed -/
def Good (l : List In) : Prop := (∀ a m n, Rb l a m → Rb l a n → m = n) ∧ ∀ a m i, Rb l a m → l[a]? = some i → bearsB i.op m = true
end Go.Proofs.YtiaelaepfhiabaaDoor.Co
