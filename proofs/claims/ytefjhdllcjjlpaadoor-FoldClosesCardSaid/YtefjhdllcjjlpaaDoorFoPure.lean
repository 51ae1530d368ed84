/-
  What goes with what: the document's rows; an orbit as a strictly rising list. Pure: no program.
-/
set_option linter.unusedVariables false
set_option linter.unusedSimpArgs false
namespace Go.Proofs.YtefjhdllcjjlpaaDoor.Fo

structure Row where
  lo : Int
  hi : Int
  step : Int
  far : Int
def T : List Row := [⟨65, 90, 1, 32⟩, ⟨192, 214, 1, 32⟩, ⟨216, 222, 1, 32⟩, ⟨256, 302, 2, 1⟩, ⟨306, 310, 2, 1⟩, ⟨313, 327, 2, 1⟩, ⟨330, 374, 2, 1⟩, ⟨377, 381, 2, 1⟩, ⟨913, 929, 1, 32⟩, ⟨931, 939, 1, 32⟩, ⟨1024, 1039, 1, 80⟩, ⟨1040, 1071, 1, 32⟩, ⟨1120, 1152, 2, 1⟩, ⟨1329, 1366, 1, 48⟩, ⟨7680, 7828, 2, 1⟩, ⟨9398, 9423, 1, 26⟩, ⟨65313, 65338, 1, 32⟩, ⟨66560, 66599, 1, 40⟩]
def S : List (Int × Int) := [(181, 956), (376, 255), (383, 115), (962, 963), (8490, 107), (8491, 229)]
def inRow (x : Int) (r : Row) : Bool := decide (r.lo ≤ x) && decide (x ≤ r.hi) && (r.step == 1 || x.tmod 2 == r.lo.tmod 2)
def withP (x : Int) : Int :=
  match S.find? (fun p => p.1 == x) with
  | some p => p.2
  | none => match T.find? (inRow x) with
    | some r => x + r.far
    | none => x
def far : List Int := [80, 48, 40, 32, 26, 1, 0]
def spec : List Int := [181, 376, 383, 962, 8490, 8491]

theorem withP_cases (x : Int) : (x ∈ spec) ∨ (∃ f ∈ far, withP x = x + f) := by
  unfold withP
  cases h : S.find? (fun p => p.1 == x) with
  | some p =>
    left
    have h1 := List.find?_some h
    have h2 := List.mem_of_find?_eq_some h
    simp at h1
    subst h1
    simp [S] at h2
    rcases h2 with rfl | rfl | rfl | rfl | rfl | rfl <;> simp [spec]
  | none =>
    right
    cases h2 : T.find? (inRow x) with
    | none => exact ⟨0, by simp [far], by simp⟩
    | some r =>
      have h3 := List.mem_of_find?_eq_some h2
      refine ⟨r.far, ?_, rfl⟩
      simp [T] at h3
      rcases h3 with rfl | rfl | rfl | rfl | rfl | rfl | rfl | rfl | rfl | rfl | rfl | rfl | rfl | rfl | rfl | rfl | rfl | rfl <;> simp [far]
theorem withP_bound (x : Int) (h0 : 0 ≤ x) (h1 : x ≤ 1114367) : 0 ≤ withP x ∧ withP x ≤ 1114367 ∧ (x ≤ withP x ∨ x ∈ spec) := by
  unfold withP
  cases h : S.find? (fun p => p.1 == x) with
  | some p =>
    have h1 := List.find?_some h
    have h2 := List.mem_of_find?_eq_some h
    simp at h1
    subst h1
    simp [S] at h2
    rcases h2 with rfl | rfl | rfl | rfl | rfl | rfl <;> simp [spec]
  | none =>
    cases h2 : T.find? (inRow x) with
    | none => simp; omega
    | some r =>
      have h3 := List.mem_of_find?_eq_some h2
      have h4 := List.find?_some h2
      simp only [inRow, Bool.and_eq_true, decide_eq_true_eq] at h4
      obtain ⟨⟨h5, h6⟩, _⟩ := h4
      simp only
      simp [T] at h3
      rcases h3 with rfl | rfl | rfl | rfl | rfl | rfl | rfl | rfl | rfl | rfl | rfl | rfl | rfl | rfl | rfl | rfl | rfl | rfl <;> simp only at h5 h6 ⊢ <;> omega

/-- l is x's orbit: strictly rising, all that go where x goes. -/
def IsOrbit (x : Int) (l : List Int) : Prop :=
  if 0 ≤ x ∧ x ≤ 1114367 then l.Pairwise (· < ·) ∧ ∀ y, y ∈ l ↔ (0 ≤ y ∧ y ≤ 1114367 ∧ withP y = withP x) else l = []
theorem sorted_unique : ∀ {a b : List Int}, a.Pairwise (· < ·) → b.Pairwise (· < ·) → (∀ y, y ∈ a ↔ y ∈ b) → a = b
  | [], [], _, _, _ => rfl
  | [], y :: b, _, _, h => by have := (h y).2 (by simp); simp at this
  | x :: a, [], _, _, h => by have := (h x).1 (by simp); simp at this
  | x :: a, y :: b, ha, hb, h => by
    rw [List.pairwise_cons] at ha hb
    have hxy : x = y := by
      have h1 := (h x).1 (by simp)
      have h2 := (h y).2 (by simp)
      rcases List.mem_cons.1 h1 with e | e
      · exact e
      · rcases List.mem_cons.1 h2 with e2 | e2
        · exact e2.symm
        · have := hb.1 x e
          have := ha.1 y e2
          omega
    subst hxy
    congr 1
    refine sorted_unique ha.2 hb.2 fun z => ⟨fun hz => ?_, fun hz => ?_⟩
    · have h1 := (h z).1 (by simp [hz])
      rcases List.mem_cons.1 h1 with e | e
      · have := ha.1 z hz; omega
      · exact e
    · have h1 := (h z).2 (by simp [hz])
      rcases List.mem_cons.1 h1 with e | e
      · have := hb.1 z hz; omega
      · exact e
theorem orbit_unique {x : Int} {a b : List Int} (ha : IsOrbit x a) (hb : IsOrbit x b) : a = b := by
  unfold IsOrbit at ha hb
  split at ha
  · rename_i h
    rw [if_pos h] at hb
    exact sorted_unique ha.1 hb.1 fun y => (ha.2 y).trans (hb.2 y).symm
  · rename_i h
    rw [if_neg h] at hb
    rw [ha, hb]

/- the reference's way: the far ones, then the six -/
def near (b : Int) (fs : List Int) : List Int := (fs.map fun f => b - f).filter fun y => decide (0 ≤ y) && withP y == b
def six (b : Int) (out : List Int) : List Int → List Int
  | [] => out
  | y :: t => six b (if withP y = b ∧ y ∉ out then out ++ [y] else out) t
theorem six_mem (b : Int) : ∀ (t out : List Int) (y : Int), y ∈ six b out t ↔ (y ∈ out ∨ (y ∈ t ∧ withP y = b))
  | [], out, y => by simp [six]
  | z :: t, out, y => by
    unfold six
    rw [six_mem b t]
    by_cases h : withP z = b ∧ z ∉ out
    · rw [if_pos h]
      simp only [List.mem_append, List.mem_cons, List.not_mem_nil, or_false]
      constructor
      · rintro ((h1 | rfl) | h1)
        · exact .inl h1
        · exact .inr ⟨.inl rfl, h.1⟩
        · exact .inr ⟨.inr h1.1, h1.2⟩
      · rintro (h1 | ⟨rfl | h1, h2⟩)
        · exact .inl (.inl h1)
        · exact .inl (.inr rfl)
        · exact .inr ⟨h1, h2⟩
    · rw [if_neg h]
      simp only [List.mem_cons]
      constructor
      · rintro (h1 | h1)
        · exact .inl h1
        · exact .inr ⟨.inr h1.1, h1.2⟩
      · rintro (h1 | ⟨rfl | h1, h2⟩)
        · exact .inl h1
        · by_cases hy : y ∈ out
          · exact .inl hy
          · exact absurd ⟨h2, hy⟩ h
        · exact .inr ⟨h1, h2⟩
theorem six_nodup (b : Int) : ∀ (t out : List Int), out.Nodup → (six b out t).Nodup
  | [], out, h => h
  | z :: t, out, h => by
    unfold six
    refine six_nodup b t _ ?_
    split
    · rename_i hz
      rw [List.nodup_append]
      refine ⟨h, by simp, fun a ha c hc => ?_⟩
      rw [List.mem_singleton.1 hc]
      rintro rfl
      exact hz.2 ha
    · exact h
theorem near_nodup (b : Int) : (near b far).Nodup := by
  unfold near
  refine List.Pairwise.filter _ ?_
  rw [List.pairwise_map]
  have h : far.Pairwise (· ≠ ·) := by decide
  exact h.imp fun {x y} hne => by intro e; exact hne (by omega)
theorem near_mem (b y : Int) : y ∈ near b far ↔ (∃ f ∈ far, y = b - f) ∧ 0 ≤ y ∧ withP y = b := by
  simp only [near, List.mem_filter, List.mem_map, Bool.and_eq_true, decide_eq_true_eq, beq_iff_eq]
  constructor
  · rintro ⟨⟨f, hf, rfl⟩, h⟩; exact ⟨⟨f, hf, rfl⟩, h⟩
  · rintro ⟨⟨f, hf, rfl⟩, h⟩; exact ⟨⟨f, hf, rfl⟩, h⟩
theorem spec_bound {y : Int} (h : y ∈ spec) : 0 ≤ y ∧ y ≤ 1114367 := by
  simp [spec] at h
  omega
/-- sorted, they are the orbit -/
theorem orbit_of (x : Int) (h0 : 0 ≤ x) (h1 : x ≤ 1114367) {l : List Int} (hp : l.Perm (six (withP x) (near (withP x) far) spec)) (hs : l.Pairwise (· ≤ ·)) : IsOrbit x l := by
  unfold IsOrbit
  rw [if_pos ⟨h0, h1⟩]
  have hnd : l.Nodup := hp.nodup_iff.2 (six_nodup _ _ _ (near_nodup _))
  refine ⟨?_, fun y => ?_⟩
  · have := List.Pairwise.and hs hnd
    exact this.imp fun ⟨h, hne⟩ => by omega
  · rw [hp.mem_iff, six_mem, near_mem]
    have hb := withP_bound x h0 h1
    constructor
    · rintro (⟨⟨f, hf, rfl⟩, h2, h3⟩ | ⟨h2, h3⟩)
      · refine ⟨h2, ?_, h3⟩
        simp [far] at hf
        omega
      · exact ⟨(spec_bound h2).1, (spec_bound h2).2, h3⟩
    · rintro ⟨h2, h3, h4⟩
      rcases withP_cases y with h5 | ⟨f, hf, h5⟩
      · exact .inr ⟨h5, h4⟩
      · exact .inl ⟨⟨f, hf, by omega⟩, h2, h4⟩
end Go.Proofs.YtefjhdllcjjlpaaDoor.Fo
