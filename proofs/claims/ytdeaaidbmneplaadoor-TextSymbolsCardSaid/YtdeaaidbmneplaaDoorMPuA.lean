/-
  The program's table of letters; what stands behind a letter, and ahead of it; its orbit.
-/
set_option linter.unusedSimpArgs false
set_option linter.unusedVariables false
namespace Go.Proofs.YtdeaaidbmneplaaDoor.Cl
def wi (x a b : Int) : Bool := decide (a ≤ x) && decide (x ≤ b)
theorem wi_t {x a b : Int} (h1 : a ≤ x) (h2 : x ≤ b) : wi x a b = true := by simp [wi, h1, h2]
theorem wi_f {x a b : Int} (h : x < a ∨ b < x) : wi x a b = false := by simp [wi]; omega
def nmB : List (List UInt8) := [[97, 108, 110, 117, 109], [97, 108, 112, 104, 97], [97, 115, 99, 105, 105], [98, 108, 97, 110, 107], [99, 110, 116, 114, 108], [100, 105, 103, 105, 116], [103, 114, 97, 112, 104], [108, 111, 119, 101, 114], [112, 114, 105, 110, 116], [112, 117, 110, 99, 116], [115, 112, 97, 99, 101], [117, 112, 112, 101, 114], [119, 111, 114, 100], [120, 100, 105, 103, 105, 116]]
theorem nmB_len : nmB.length = 14 := rfl
def tbl (x : Int) : List Bool :=
  let d := wi x 48 57
  let u := wi x 65 90
  let l := wi x 97 122
  [d || u || l, u || l, wi x 0 127, x == 9 || x == 32, wi x 0 31 || x == 127, d, wi x 33 126, l, wi x 32 126, wi x 33 126 && !d && !u && !l, wi x 9 13 || x == 32, u, d || u || l || x == 95, d || wi x 65 70 || wi x 97 102]
theorem tbl_len (x : Int) : (tbl x).length = 14 := rfl
def look (s : List UInt8) (x : Int) (k : Nat) : Bool × Bool := match (nmB.drop k).findIdx? (· == s) with
  | some j => ((tbl x).getD (k + j) false, true)
  | none => (false, false)
def hasP (s : List UInt8) (x : Int) : Bool × Bool := look s x 0
theorem look_end (s : List UInt8) (x : Int) : look s x 14 = (false, false) := rfl
theorem look_hit {s : List UInt8} {x : Int} {k : Nat} {n : List UInt8} (hn : nmB[k]? = some n) (h : n = s) : look s x k = ((tbl x).getD k false, true) := by
  obtain ⟨hk, rfl⟩ := List.getElem?_eq_some_iff.1 hn
  unfold look
  rw [List.drop_eq_getElem_cons hk, List.findIdx?_cons, if_pos (by simp [h])]
  rfl
theorem look_miss {s : List UInt8} {x : Int} {k : Nat} {n : List UInt8} (hn : nmB[k]? = some n) (h : ¬ n = s) : look s x k = look s x (k + 1) := by
  obtain ⟨hk, rfl⟩ := List.getElem?_eq_some_iff.1 hn
  unfold look
  rw [List.drop_eq_getElem_cons hk, List.findIdx?_cons, if_neg (by simp [h])]
  cases (nmB.drop (k + 1)).findIdx? (· == s) with
  | none => rfl
  | some j => show ((tbl x).getD (k + (j + 1)) false, true) = ((tbl x).getD (k + 1 + j) false, true); rw [show k + (j + 1) = k + 1 + j by omega]
end Go.Proofs.YtdeaaidbmneplaaDoor.Cl
namespace Go.Proofs.YtdeaaidbmneplaaDoor.Rs
abbrev R := Int × Int
def inR (x : Int) (r : R) : Bool := decide (0 ≤ x ∧ x ≤ 1114367 ∧ r.1 ≤ x ∧ x ≤ r.2)
def hasL (l : List R) (x : Int) : Bool := l.any (inR x)
def okR (r : R) : Prop := 0 ≤ r.1 ∧ r.1 ≤ r.2 ∧ r.2 ≤ 1114367
instance (r : R) : Decidable (okR r) := by unfold okR; infer_instance
def LeastF : Int → List R → Prop
  | _, [] => True
  | p, r :: t => p < r.1 - 1 ∧ r.1 ≤ r.2 ∧ r.2 ≤ 1114367 ∧ LeastF r.2 t
instance decLeastF : (p : Int) → (l : List R) → Decidable (LeastF p l)
  | _, [] => .isTrue trivial
  | p, r :: t => by
    have := decLeastF r.2 t
    unfold LeastF
    infer_instance
def Least (l : List R) : Prop := LeastF (-2) l
instance (l : List R) : Decidable (Least l) := decLeastF _ _
@[simp] theorem hasL_nil (x : Int) : hasL [] x = false := rfl
@[simp] theorem hasL_cons (r : R) (l : List R) (x : Int) : hasL (r :: l) x = (inR x r || hasL l x) := rfl
theorem hasL_append (a b : List R) (x : Int) : hasL (a ++ b) x = (hasL a x || hasL b x) := by simp [hasL]
theorem LeastF.mono {p q : Int} {l : List R} (h : LeastF p l) (hq : q ≤ p) : LeastF q l := by
  cases l with
  | nil => trivial
  | cons r t => exact ⟨by have := h.1; omega, h.2⟩
theorem LeastF.lo {p : Int} {l : List R} (h : LeastF p l) : ∀ r ∈ l, p + 1 < r.1 ∧ r.1 ≤ r.2 ∧ r.2 ≤ 1114367 := by
  induction l generalizing p with
  | nil => intro r hr; cases hr
  | cons a t ih =>
    intro r hr
    rcases List.mem_cons.1 hr with rfl | hr
    · have := h.1
      exact ⟨by omega, h.2.1, h.2.2.1⟩
    · have h1 := ih h.2.2.2 r hr
      have h2 := h.1
      have h3 := h.2.1
      exact ⟨by omega, h1.2⟩
theorem LeastF.has {p : Int} {l : List R} (h : LeastF p l) {x : Int} (hx : hasL l x = true) : p + 1 < x := by
  simp only [hasL, List.any_eq_true] at hx
  obtain ⟨r, hr, hx⟩ := hx
  have := h.lo r hr
  simp [inR] at hx
  omega
theorem Least.ok {l : List R} (h : Least l) : ∀ r ∈ l, okR r := fun r hr => by
  have := LeastF.lo h r hr
  unfold okR; omega
def sumL (l : List R) : Int := (l.map fun r => r.2 - r.1 + 1).sum
@[simp] theorem sumL_nil : sumL [] = 0 := rfl
@[simp] theorem sumL_cons (r : R) (l : List R) : sumL (r :: l) = r.2 - r.1 + 1 + sumL l := by simp [sumL]
end Go.Proofs.YtdeaaidbmneplaaDoor.Rs
namespace Go.Proofs.YtdeaaidbmneplaaDoor.Cl
open Go.Proofs.YtdeaaidbmneplaaDoor.Rs
def sets : List (List R) := [[(48, 57), (65, 90), (97, 122)], [(65, 90), (97, 122)], [(0, 127)], [(9, 9), (32, 32)], [(0, 31), (127, 127)], [(48, 57)], [(33, 126)], [(97, 122)], [(32, 126)], [(33, 47), (58, 64), (91, 96), (123, 126)], [(9, 13), (32, 32)], [(65, 90)], [(48, 57), (65, 90), (95, 95), (97, 122)], [(48, 57), (65, 70), (97, 102)]]
theorem sets_len : sets.length = 14 := rfl
theorem sets_some : ∀ l ∈ sets, 0 < l.length ∧ l.length ≤ 4 := by decide
theorem sets_tbl (x : Int) : sets.map (fun l => hasL l x) = tbl x := by
  simp only [sets, tbl, List.map_cons, List.map_nil, hasL_cons, hasL_nil, inR, wi, List.cons.injEq, and_true]
  refine ⟨?_, ?_, ?_, ?_, ?_, ?_, ?_, ?_, ?_, ?_, ?_, ?_, ?_, ?_⟩
  all_goals
    rw [Bool.eq_iff_iff]
    simp
    omega
def place (s : List UInt8) : Option Nat := nmB.findIdx? (· == s)
theorem place_lt {s : List UInt8} {j : Nat} (h : place s = some j) : j < 14 := by
  have := (List.findIdx?_eq_some_iff_findIdx_eq.1 h).1
  rwa [nmB_len] at this
theorem sets_at {j : Nat} (h : j < 14) : ∃ l, sets[j]? = some l ∧ l ∈ sets := by
  have hj : j < sets.length := by rw [sets_len]; exact h
  exact ⟨sets[j], List.getElem?_eq_getElem hj, List.getElem_mem hj⟩
def nameL (s : List UInt8) : List R := match place s with
  | some j => sets.getD j []
  | none => []
def isName (s : List UInt8) : Bool := (place s).isSome
theorem hasP_eq (s : List UInt8) (x : Int) : hasP s x = (hasL (nameL s) x, isName s) := by
  have h0 : hasP s x = match place s with
    | some j => ((tbl x).getD j false, true)
    | none => (false, false) := by
    unfold hasP look place
    rw [List.drop_zero]
    cases nmB.findIdx? (· == s) with
    | none => rfl
    | some j => simp
  rw [h0]
  unfold nameL isName
  cases h : place s with
  | none => rfl
  | some j =>
    obtain ⟨l, hs, _⟩ := sets_at (place_lt h)
    show ((tbl x).getD j false, true) = (hasL (sets.getD j []) x, true)
    rw [← sets_tbl, List.getD, List.getD, List.getElem?_map, hs]
    rfl
theorem nameL_len (s : List UInt8) : (nameL s).length ≤ 4 ∧ (isName s = true → 0 < (nameL s).length) ∧ (isName s = false → nameL s = []) := by
  unfold nameL isName
  cases h : place s with
  | none => simp
  | some j =>
    obtain ⟨l, hs, hm⟩ := sets_at (place_lt h)
    have := sets_some _ hm
    simp only [List.getD, hs, Option.getD_some, Option.isSome_some]
    exact ⟨this.2, fun _ => this.1, fun h => by cases h⟩
end Go.Proofs.YtdeaaidbmneplaaDoor.Cl
namespace Go.Proofs.YtdeaaidbmneplaaDoor.Fo
section
structure Row where
  lo : Int
  hi : Int
  step : Int
  far : Int
def T : List Row := [⟨65, 90, 1, 32⟩, ⟨192, 214, 1, 32⟩, ⟨216, 222, 1, 32⟩, ⟨256, 302, 2, 1⟩, ⟨306, 310, 2, 1⟩, ⟨313, 327, 2, 1⟩, ⟨330, 374, 2, 1⟩, ⟨377, 381, 2, 1⟩, ⟨913, 929, 1, 32⟩, ⟨931, 939, 1, 32⟩, ⟨1024, 1039, 1, 80⟩, ⟨1040, 1071, 1, 32⟩, ⟨1120, 1152, 2, 1⟩, ⟨1329, 1366, 1, 48⟩, ⟨7680, 7828, 2, 1⟩, ⟨9398, 9423, 1, 26⟩, ⟨65313, 65338, 1, 32⟩, ⟨66560, 66599, 1, 40⟩]
def S : List (Int × Int) := [(181, 956), (376, 255), (383, 115), (962, 963), (8490, 107), (8491, 229)]
def inRow (x : Int) (r : Row) : Bool := decide (r.lo ≤ x) && decide (x ≤ r.hi) && (r.step == 1 || x.tmod 2 == r.lo.tmod 2)
def withP (x : Int) : Int :=
  match S.find? (fun p => p.1 == x) with
  | some p => p.2
  | none => match T.find? (inRow x) with
    | some r => x + r.far
    | none => x
def far : List Int := [80, 48, 40, 32, 26, 1, 0]
def spec : List Int := [181, 376, 383, 962, 8490, 8491]
theorem withP_cases (x : Int) : (x ∈ spec) ∨ (∃ f ∈ far, withP x = x + f) := by
  unfold withP
  cases h : S.find? (fun p => p.1 == x) with
  | some p =>
    left
    have h1 := List.find?_some h
    have h2 := List.mem_of_find?_eq_some h
    simp at h1
    subst h1
    simp [S] at h2
    rcases h2 with rfl | rfl | rfl | rfl | rfl | rfl <;> simp [spec]
  | none =>
    right
    cases h2 : T.find? (inRow x) with
    | none => exact ⟨0, by simp [far], by simp⟩
    | some r =>
      have h3 := List.mem_of_find?_eq_some h2
      refine ⟨r.far, ?_, rfl⟩
      simp [T] at h3
      rcases h3 with rfl | rfl | rfl | rfl | rfl | rfl | rfl | rfl | rfl | rfl | rfl | rfl | rfl | rfl | rfl | rfl | rfl | rfl <;> simp [far]
theorem withP_bound (x : Int) (h0 : 0 ≤ x) (h1 : x ≤ 1114367) : 0 ≤ withP x ∧ withP x ≤ 1114367 ∧ (x ≤ withP x ∨ x ∈ spec) := by
  unfold withP
  cases h : S.find? (fun p => p.1 == x) with
  | some p =>
    have h1 := List.find?_some h
    have h2 := List.mem_of_find?_eq_some h
    simp at h1
    subst h1
    simp [S] at h2
    rcases h2 with rfl | rfl | rfl | rfl | rfl | rfl <;> simp [spec]
  | none =>
    cases h2 : T.find? (inRow x) with
    | none => simp; omega
    | some r =>
      have h3 := List.mem_of_find?_eq_some h2
      have h4 := List.find?_some h2
      simp only [inRow, Bool.and_eq_true, decide_eq_true_eq] at h4
      obtain ⟨⟨h5, h6⟩, _⟩ := h4
      simp only
      simp [T] at h3
      rcases h3 with rfl | rfl | rfl | rfl | rfl | rfl | rfl | rfl | rfl | rfl | rfl | rfl | rfl | rfl | rfl | rfl | rfl | rfl <;> simp only at h5 h6 ⊢ <;> omega
def IsOrbit (x : Int) (l : List Int) : Prop :=
  if 0 ≤ x ∧ x ≤ 1114367 then l.Pairwise (· < ·) ∧ ∀ y, y ∈ l ↔ (0 ≤ y ∧ y ≤ 1114367 ∧ withP y = withP x) else l = []
theorem sorted_unique : ∀ {a b : List Int}, a.Pairwise (· < ·) → b.Pairwise (· < ·) → (∀ y, y ∈ a ↔ y ∈ b) → a = b
  | [], [], _, _, _ => rfl
  | [], y :: b, _, _, h => by have := (h y).2 (by simp); simp at this
  | x :: a, [], _, _, h => by have := (h x).1 (by simp); simp at this
  | x :: a, y :: b, ha, hb, h => by
    rw [List.pairwise_cons] at ha hb
    have hxy : x = y := by
      have h1 := (h x).1 (by simp)
      have h2 := (h y).2 (by simp)
      rcases List.mem_cons.1 h1 with e | e
      · exact e
      · rcases List.mem_cons.1 h2 with e2 | e2
        · exact e2.symm
        · have := hb.1 x e
          have := ha.1 y e2
          omega
    subst hxy
    congr 1
    refine sorted_unique ha.2 hb.2 fun z => ⟨fun hz => ?_, fun hz => ?_⟩
    · have h1 := (h z).1 (by simp [hz])
      rcases List.mem_cons.1 h1 with e | e
      · have := ha.1 z hz; omega
      · exact e
    · have h1 := (h z).2 (by simp [hz])
      rcases List.mem_cons.1 h1 with e | e
      · have := hb.1 z hz; omega
      · exact e
theorem orbit_unique {x : Int} {a b : List Int} (ha : IsOrbit x a) (hb : IsOrbit x b) : a = b := by
  unfold IsOrbit at ha hb
  split at ha
  · rename_i h
    rw [if_pos h] at hb
    exact sorted_unique ha.1 hb.1 fun y => (ha.2 y).trans (hb.2 y).symm
  · rename_i h
    rw [if_neg h] at hb
    rw [ha, hb]
def near (b : Int) (fs : List Int) : List Int := (fs.map fun f => b - f).filter fun y => decide (0 ≤ y) && withP y == b
def six (b : Int) (out : List Int) : List Int → List Int
  | [] => out
  | y :: t => six b (if withP y = b ∧ y ∉ out then out ++ [y] else out) t
theorem six_mem (b : Int) : ∀ (t out : List Int) (y : Int), y ∈ six b out t ↔ (y ∈ out ∨ (y ∈ t ∧ withP y = b))
  | [], out, y => by simp [six]
  | z :: t, out, y => by
    unfold six
    rw [six_mem b t]
    by_cases h : withP z = b ∧ z ∉ out
    · rw [if_pos h]
      simp only [List.mem_append, List.mem_cons, List.not_mem_nil, or_false]
      constructor
      · rintro ((h1 | rfl) | h1)
        · exact .inl h1
        · exact .inr ⟨.inl rfl, h.1⟩
        · exact .inr ⟨.inr h1.1, h1.2⟩
      · rintro (h1 | ⟨rfl | h1, h2⟩)
        · exact .inl (.inl h1)
        · exact .inl (.inr rfl)
        · exact .inr ⟨h1, h2⟩
    · rw [if_neg h]
      simp only [List.mem_cons]
      constructor
      · rintro (h1 | h1)
        · exact .inl h1
        · exact .inr ⟨.inr h1.1, h1.2⟩
      · rintro (h1 | ⟨rfl | h1, h2⟩)
        · exact .inl h1
        · by_cases hy : y ∈ out
          · exact .inl hy
          · exact absurd ⟨h2, hy⟩ h
        · exact .inr ⟨h1, h2⟩
theorem six_nodup (b : Int) : ∀ (t out : List Int), out.Nodup → (six b out t).Nodup
  | [], out, h => h
  | z :: t, out, h => by
    unfold six
    refine six_nodup b t _ ?_
    split
    · rename_i hz
      rw [List.nodup_append]
      refine ⟨h, by simp, fun a ha c hc => ?_⟩
      rw [List.mem_singleton.1 hc]
      rintro rfl
      exact hz.2 ha
    · exact h
theorem near_nodup (b : Int) : (near b far).Nodup := by
  unfold near
  refine List.Pairwise.filter _ ?_
  rw [List.pairwise_map]
  have h : far.Pairwise (· ≠ ·) := by decide
  exact h.imp fun {x y} hne => by intro e; exact hne (by omega)
theorem near_mem (b y : Int) : y ∈ near b far ↔ (∃ f ∈ far, y = b - f) ∧ 0 ≤ y ∧ withP y = b := by
  simp only [near, List.mem_filter, List.mem_map, Bool.and_eq_true, decide_eq_true_eq, beq_iff_eq]
  constructor
  · rintro ⟨⟨f, hf, rfl⟩, h⟩; exact ⟨⟨f, hf, rfl⟩, h⟩
  · rintro ⟨⟨f, hf, rfl⟩, h⟩; exact ⟨⟨f, hf, rfl⟩, h⟩
theorem spec_bound {y : Int} (h : y ∈ spec) : 0 ≤ y ∧ y ≤ 1114367 := by
  simp [spec] at h
  omega
theorem orbit_of (x : Int) (h0 : 0 ≤ x) (h1 : x ≤ 1114367) {l : List Int} (hp : l.Perm (six (withP x) (near (withP x) far) spec)) (hs : l.Pairwise (· ≤ ·)) : IsOrbit x l := by
  unfold IsOrbit
  rw [if_pos ⟨h0, h1⟩]
  have hnd : l.Nodup := hp.nodup_iff.2 (six_nodup _ _ _ (near_nodup _))
  refine ⟨?_, fun y => ?_⟩
  · have := List.Pairwise.and hs hnd
    exact this.imp fun ⟨h, hne⟩ => by omega
  · rw [hp.mem_iff, six_mem, near_mem]
    have hb := withP_bound x h0 h1
    constructor
    · rintro (⟨⟨f, hf, rfl⟩, h2, h3⟩ | ⟨h2, h3⟩)
      · refine ⟨h2, ?_, h3⟩
        simp [far] at hf
        omega
      · exact ⟨(spec_bound h2).1, (spec_bound h2).2, h3⟩
    · rintro ⟨h2, h3, h4⟩
      rcases withP_cases y with h5 | ⟨f, hf, h5⟩
      · exact .inr ⟨h5, h4⟩
      · exact .inl ⟨⟨f, hf, by omega⟩, h2, h4⟩
end
section
def orb (x : Int) : List Int := if 0 ≤ x ∧ x ≤ 1114367 then (six (withP x) (near (withP x) far) spec).mergeSort (fun a b => decide (a ≤ b)) else []
theorem orb_is (x : Int) : IsOrbit x (orb x) := by
  by_cases h : 0 ≤ x ∧ x ≤ 1114367
  · unfold orb
    rw [if_pos h]
    refine orbit_of x h.1 h.2 (List.mergeSort_perm _ _) ?_
    have hs := List.pairwise_mergeSort (le := fun a b : Int => decide (a ≤ b)) (fun a b c h1 h2 => by simp at h1 h2 ⊢; omega) (fun a b => by simp; omega) (six (withP x) (near (withP x) far) spec)
    exact hs.imp fun h => by simpa using h
  · unfold orb IsOrbit
    rw [if_neg h, if_neg h]
theorem orb_unique {x : Int} {l : List Int} (h : IsOrbit x l) : l = orb x := orbit_unique h (orb_is x)
theorem mem_orb {x y : Int} : y ∈ orb x ↔ (0 ≤ x ∧ x ≤ 1114367) ∧ 0 ≤ y ∧ y ≤ 1114367 ∧ withP y = withP x := by
  have h := orb_is x
  unfold IsOrbit at h
  split at h
  · rename_i hx
    rw [h.2 y]
    exact ⟨fun k => ⟨hx, k⟩, fun k => k.2⟩
  · rename_i hx
    rw [h]
    simp
    intro h1 h2
    exact absurd ⟨h1, h2⟩ hx
theorem orb_self {x : Int} (h0 : 0 ≤ x) (h1 : x ≤ 1114367) : x ∈ orb x := mem_orb.2 ⟨⟨h0, h1⟩, h0, h1, rfl⟩
theorem orb_rises (x : Int) : (orb x).Pairwise (· < ·) := by
  have h := orb_is x
  unfold IsOrbit at h
  split at h
  · exact h.1
  · rw [h]; exact List.Pairwise.nil
def foldZ (x : Int) : Int := (orb x).headD x
theorem foldZ_mem {x : Int} (h0 : 0 ≤ x) (h1 : x ≤ 1114367) : foldZ x ∈ orb x := by
  unfold foldZ
  have h := orb_self h0 h1
  cases ho : orb x with
  | nil => rw [ho] at h; cases h
  | cons a t => simp
theorem foldZ_out {x : Int} (h : ¬ (0 ≤ x ∧ x ≤ 1114367)) : orb x = [] ∧ foldZ x = x := by
  have : orb x = [] := by unfold orb; rw [if_neg h]
  exact ⟨this, by unfold foldZ; rw [this]; rfl⟩
end
section
def U : List Row := T ++ [⟨181, 181, 1, 775⟩, ⟨376, 376, 1, -121⟩, ⟨383, 383, 1, -268⟩, ⟨962, 962, 1, 1⟩, ⟨8490, 8490, 1, -8383⟩, ⟨8491, 8491, 1, -8262⟩]
def hasR (x : Int) (r : Row) : Bool := decide (r.lo ≤ x) && (decide (x ≤ r.hi) && ((x - r.lo).tmod r.step == 0))
def lowP (x : Int) : Int := match U.find? (hasR x) with
  | some r => x + r.far
  | none => x
def upsP (low : Int) (l : List Row) : List Int := l.filterMap fun r => if hasR (low - r.far) r then some (low - r.far) else none
def rowLetters (r : Row) : List (Int × Int) := (List.range ((r.hi - r.lo).toNat / r.step.toNat + 1)).map fun (i : Nat) => (r.lo + i * r.step, r.lo + i * r.step + r.far)
def letters : List (Int × Int) := U.flatMap rowLetters
def okLetter (p : Int × Int) : Bool := withP p.1 == p.2 && (withP p.2 == p.2 && (decide (p.1 ≠ p.2) && (decide (0 ≤ p.1) && (decide (p.1 ≤ 1114367) && (decide (0 ≤ p.2) && (decide (p.2 ≤ 1114367) && (decide ((upsP p.2 U).length ≤ 2) && decide ((upsP p.2 U).Nodup))))))))
set_option maxRecDepth 100000 in
theorem letters_all : letters.all okLetter = true := by decide +kernel
structure Letter (x y : Int) : Prop where
  to : withP x = y
  low : withP y = y
  ne : x ≠ y
  a0 : 0 ≤ x
  a1 : x ≤ 1114367
  b0 : 0 ≤ y
  b1 : y ≤ 1114367
  two : (upsP y U).length ≤ 2
  nodup : (upsP y U).Nodup
theorem letter_of {x y : Int} (h : (x, y) ∈ letters) : Letter x y := by
  have h1 := List.all_eq_true.1 letters_all _ h
  simp only [okLetter, Bool.and_eq_true, decide_eq_true_eq, beq_iff_eq] at h1
  obtain ⟨h1, h2, h3, h4, h5, h6, h7, h8, h9⟩ := h1
  exact ⟨h1, h2, h3, h4, h5, h6, h7, h8, h9⟩
theorem row_ok : ∀ r ∈ U, 0 ≤ r.lo ∧ r.lo ≤ r.hi ∧ r.hi ≤ 1114367 ∧ (r.step = 1 ∨ r.step = 2) ∧ -8383 ≤ r.far ∧ r.far ≤ 775 := by decide +kernel
theorem has_iff {x : Int} {r : Row} : hasR x r = true ↔ r.lo ≤ x ∧ x ≤ r.hi ∧ (x - r.lo).tmod r.step = 0 := by simp [hasR]
theorem mem_letters {x : Int} {r : Row} (hr : r ∈ U) (h : hasR x r = true) : (x, x + r.far) ∈ letters := by
  obtain ⟨h0, h1, h2, h3, _, _⟩ := row_ok r hr
  obtain ⟨k0, k1, k2⟩ := has_iff.1 h
  refine List.mem_flatMap.2 ⟨r, hr, List.mem_map.2 ⟨(x - r.lo).toNat / r.step.toNat, ?_, ?_⟩⟩
  · rw [List.mem_range]
    rcases h3 with h3 | h3 <;> rw [h3] <;> simp <;> omega
  · rw [Int.tmod_eq_emod_of_nonneg (by omega)] at k2
    rcases h3 with h3 | h3
    · rw [h3]; simp; omega
    · rw [h3] at k2 ⊢
      have e : r.lo + (((x - r.lo).toNat / (2 : Int).toNat : Nat) : Int) * 2 = x := by
        have : (2 : Int).toNat = 2 := rfl
        rw [this]
        omega
      rw [e]
theorem spec_in : ∀ p ∈ S, ∃ r ∈ U, hasR p.1 r = true := by decide +kernel
theorem T_in : ∀ r ∈ T, r ∈ U := fun r h => List.mem_append_left _ h
theorem has_of_in {x : Int} {r : Row} (hr : r ∈ T) (h : inRow x r = true) : hasR x r = true := by
  obtain ⟨h0, h1, h2, h3, _, _⟩ := row_ok r (T_in r hr)
  simp only [inRow, Bool.and_eq_true, Bool.or_eq_true, decide_eq_true_eq, beq_iff_eq] at h
  obtain ⟨⟨k0, k1⟩, k2⟩ := h
  refine has_iff.2 ⟨k0, k1, ?_⟩
  rw [Int.tmod_eq_emod_of_nonneg (by omega)]
  rcases h3 with h3 | h3
  · rw [h3]; omega
  · rw [h3]
    rcases k2 with k2 | k2
    · omega
    · rw [Int.tmod_eq_emod_of_nonneg (by omega), Int.tmod_eq_emod_of_nonneg h0] at k2
      omega
theorem alone_of {x : Int} (h : ∀ r ∈ U, hasR x r = false) : withP x = x := by
  unfold withP
  cases h1 : S.find? (fun p => p.1 == x) with
  | some p =>
    have h2 := List.find?_some h1
    have h3 := List.mem_of_find?_eq_some h1
    simp at h2
    subst h2
    obtain ⟨r, hr, k⟩ := spec_in p h3
    rw [h r hr] at k
    cases k
  | none =>
    cases h2 : T.find? (inRow x) with
    | none => rfl
    | some r =>
      have h3 := List.mem_of_find?_eq_some h2
      have h4 := List.find?_some h2
      have := has_of_in h3 h4
      rw [h r (T_in r h3)] at this
      cases this
theorem lowP_eq (x : Int) : lowP x = withP x := by
  unfold lowP
  cases h : U.find? (hasR x) with
  | some r => exact ((letter_of (mem_letters (List.mem_of_find?_eq_some h) (List.find?_some h))).to).symm
  | none => exact (alone_of fun r hr => by simpa using List.find?_eq_none.1 h r hr).symm
theorem letter_with {x : Int} (h : withP x ≠ x) : Letter x (withP x) := by
  have h0 := lowP_eq x
  unfold lowP at h0
  cases h1 : U.find? (hasR x) with
  | some r =>
    rw [h1] at h0
    rw [← h0]
    exact letter_of (mem_letters (List.mem_of_find?_eq_some h1) (List.find?_some h1))
  | none => rw [h1] at h0; exact absurd h0.symm h
theorem with_with (x : Int) : withP (withP x) = withP x := by
  by_cases h : withP x = x
  · rw [h, h]
  · exact (letter_with h).low
theorem ups_letter {low y : Int} (h : y ∈ upsP low U) : Letter y low := by
  obtain ⟨r, hr, k⟩ := List.mem_filterMap.1 h
  split at k
  · rename_i hh
    injection k with k
    subst k
    have := letter_of (mem_letters hr hh)
    rwa [show low - r.far + r.far = low by omega] at this
  · cases k
theorem mem_ups {low y : Int} : y ∈ upsP low U ↔ withP y = low ∧ y ≠ low := by
  constructor
  · intro h; exact ⟨(ups_letter h).to, (ups_letter h).ne⟩
  · rintro ⟨h, hne⟩
    have h0 := lowP_eq y
    unfold lowP at h0
    cases h1 : U.find? (hasR y) with
    | some r =>
      rw [h1] at h0
      have h2 := List.find?_some h1
      refine List.mem_filterMap.2 ⟨r, List.mem_of_find?_eq_some h1, ?_⟩
      simp only at h0
      have e : low - r.far = y := by omega
      rw [e, if_pos h2]
    | none => rw [h1] at h0; simp only at h0; omega
theorem ups_two (low : Int) : (upsP low U).length ≤ 2 ∧ (upsP low U).Nodup := by
  cases h : upsP low U with
  | nil => simp
  | cons y t =>
    have hl := ups_letter (show y ∈ upsP low U by rw [h]; simp)
    rw [← h]
    exact ⟨hl.two, hl.nodup⟩
theorem orbit_low (x : Int) (h0 : 0 ≤ x) (h1 : x ≤ 1114367) {l : List Int} (hp : l.Perm (withP x :: upsP (withP x) U)) (hs : l.Pairwise (· ≤ ·)) : IsOrbit x l := by
  unfold IsOrbit
  rw [if_pos ⟨h0, h1⟩]
  have hnd : l.Nodup := hp.nodup_iff.2 (List.nodup_cons.2 ⟨fun h => (mem_ups.1 h).2 rfl, (ups_two _).2⟩)
  refine ⟨?_, fun y => ?_⟩
  · have := List.Pairwise.and hs hnd
    exact this.imp fun ⟨h, hne⟩ => by omega
  · rw [hp.mem_iff, List.mem_cons]
    have hb := withP_bound x h0 h1
    constructor
    · rintro (rfl | h)
      · exact ⟨hb.1, hb.2.1, with_with x⟩
      · have hl := ups_letter h
        exact ⟨hl.a0, hl.a1, hl.to⟩
    · rintro ⟨_, _, h⟩
      by_cases hy : y = withP x
      · exact .inl hy
      · exact .inr (mem_ups.2 ⟨h, hy⟩)
theorem out_with {x : Int} (h : ¬ (0 ≤ x ∧ x ≤ 1114367)) : withP x = x ∧ upsP x U = [] := by
  constructor
  · by_cases e : withP x = x
    · exact e
    · have := letter_with e
      exact absurd ⟨this.a0, this.a1⟩ h
  · cases hu : upsP x U with
    | nil => rfl
    | cons y t =>
      have hl := ups_letter (show y ∈ upsP x U by rw [hu]; simp)
      exact absurd ⟨hl.b0, hl.b1⟩ h
def leastOf (a : Int) (l : List Int) : Int := l.foldl min a
theorem least_mem : ∀ (l : List Int) (a : Int), leastOf a l ∈ a :: l
  | [], a => by simp [leastOf]
  | b :: t, a => by
    have := least_mem t (min a b)
    unfold leastOf at this ⊢
    rw [List.foldl_cons]
    rcases List.mem_cons.1 this with h | h
    · rw [h]
      rcases Int.le_total a b with k | k
      · rw [Int.min_eq_left k]; simp
      · rw [Int.min_eq_right k]; simp
    · simp [h]
theorem least_le : ∀ (l : List Int) (a y : Int), y ∈ a :: l → leastOf a l ≤ y
  | [], a, y, h => by simp at h; simp [leastOf, h]
  | b :: t, a, y, h => by
    unfold leastOf
    rw [List.foldl_cons]
    rcases List.mem_cons.1 h with rfl | h
    · have := least_le t (min y b) (min y b) (by simp)
      unfold leastOf at this
      have := Int.min_le_left y b
      omega
    · rcases List.mem_cons.1 h with rfl | h
      · have := least_le t (min a y) (min a y) (by simp)
        unfold leastOf at this
        have := Int.min_le_right a y
        omega
      · have := least_le t (min a b) y (by simp [h])
        unfold leastOf at this
        exact this
theorem fold_least (x : Int) : leastOf (withP x) (upsP (withP x) U) = foldZ x := by
  by_cases h : 0 ≤ x ∧ x ≤ 1114367
  · have hm := least_mem (upsP (withP x) U) (withP x)
    have hl := least_le (upsP (withP x) U) (withP x)
    generalize leastOf (withP x) (upsP (withP x) U) = m at hm hl
    have hin : ∀ y, y ∈ withP x :: upsP (withP x) U ↔ y ∈ orb x := by
      intro y
      have ho := orbit_low x h.1 h.2 (l := (withP x :: upsP (withP x) U).mergeSort (fun a b => decide (a ≤ b))) (List.mergeSort_perm _ _) (by
        have hs := List.pairwise_mergeSort (le := fun a b : Int => decide (a ≤ b)) (fun a b c h1 h2 => by simp at h1 h2 ⊢; omega) (fun a b => by simp; omega) (withP x :: upsP (withP x) U)
        exact hs.imp fun h => by simpa using h)
      rw [← orb_unique ho]
      exact (List.mergeSort_perm _ _).mem_iff.symm
    have h1 := foldZ_mem h.1 h.2
    have h2 := hl _ ((hin _).2 h1)
    have h3 := (hin _).1 hm
    have h4 := orb_rises x
    unfold foldZ at h2 h1 ⊢
    cases ho : orb x with
    | nil => rw [ho] at h3; cases h3
    | cons a t =>
      rw [ho] at h2 h3 h4
      simp only [List.headD_cons] at h2 ⊢
      rcases List.mem_cons.1 h3 with e | e
      · exact e
      · have := (List.pairwise_cons.1 h4).1 m e
        omega
  · obtain ⟨h1, h2⟩ := out_with h
    rw [h1, h2, (foldZ_out h).2]
    rfl
end
end Go.Proofs.YtdeaaidbmneplaaDoor.Fo
