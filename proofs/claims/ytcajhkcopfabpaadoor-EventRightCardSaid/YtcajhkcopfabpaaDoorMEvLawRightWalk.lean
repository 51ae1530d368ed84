/-
  EventRight, walked: true at any state and any number of groups.
-/
import Derived.Test.YtcajhkcopfabpaaDoorMEvAnchor
import Derived.Test.YtcajhkcopfabpaaDoorMEvRight
import Derived.Deep.CutRange
set_option linter.unusedSimpArgs false
set_option linter.unusedVariables false
namespace Go.Proofs.YtcajhkcopfabpaaDoor.Ev
open Go.RowKit Go.Proofs.YtcajhkcopfabpaaDoor.Mem
theorem eql_bool (a b : Bool) (w : World) : Sem.run Tryd.prog (binOp .eql 4 (.bool a) (.bool b)) w = .ok (.bool (a == b)) w := by
  cases a <;> cases b <;> go_simp
def wantN (s : St) (g : Int) : Bool := ((((((((decide (0 ≤ g) && decide (g ≤ 99)) && (decide (1 ≤ s.kind) && decide (s.kind ≤ 14))) && (decide (0 ≤ s.node) && decide (s.node ≤ 16384))) && (decide (0 ≤ s.phase) && decide (s.phase ≤ 16384))) && (decide (0 ≤ s.pos) && decide (s.pos ≤ 65536))) && (decide (0 ≤ s.start) && decide (s.start ≤ 65536))) && (decide (0 ≤ s.depth) && decide (s.depth ≤ 65536))) && (decide ((-1) ≤ s.origin) && decide (s.origin ≤ 1048576)))
def wantL (s : St) (g : Int) : Bool := wantN s g && decide ((s.caps.length : Int) = 2 * g + 2)
def okB (x : Int) : Bool := decide (-1 ≤ x) && decide (x ≤ 65536)
theorem any_all (l : List Int) : (!(l.any wrongB)) = l.all okB := by
  induction l with
  | nil => rfl
  | cons x l ih =>
    rw [List.any_cons, List.all_cons, Bool.not_or, ih]
    congr 1
    unfold wrongB okB
    rw [Bool.eq_iff_iff]
    simp
theorem right_want (s : St) (g : Int) : rightB s g = (wantL s g && s.caps.all okB) := by
  unfold rightB wantL wantN numsOk
  rw [any_all, Bool.eq_iff_iff]
  simp only [show List.range 7 = [0, 1, 2, 3, 4, 5, 6] from rfl, List.all_cons, List.all_nil, numF, loF, hiF, loT, hiT, List.getD_cons_zero, List.getD_cons_succ, Bool.and_eq_true, decide_eq_true_eq, Bool.and_true]
  constructor
  · rintro ⟨h1, ⟨h2, h3⟩, h4⟩
    refine ⟨⟨?_, by omega⟩, h4⟩
    omega
  · rintro ⟨⟨h1, h2⟩, h4⟩
    refine ⟨?_, ⟨?_, by omega⟩, h4⟩ <;> omega
theorem all_step {l : List Int} {k : Nat} {x : Int} {q : Bool} (hx : l[k]? = some x) : (q && (l.take (k + 1)).all okB) = ((q && (l.take k).all okB) && okB x) := by
  rw [List.take_add_one, hx, List.all_append, ← Bool.and_assoc]
  simp
def LRel (s : St) (g : Int) (W : World) (q i : Value) (wr : World) : Prop := ∃ k : Nat, i = .int .i64 k ∧ k ≤ s.caps.length ∧ q = .bool (wantL s g && (s.caps.take k).all okB) ∧ wr = W
section
attribute [local go_sem] run_not_true run_not_false eql_bool
set_option maxRecDepth 100000 in
set_option maxHeartbeats 4000000 in
theorem walkRight (s : St) (A : Option Addr) (c : Nat) (g : Int) (w : World) (hN : Nm w) (hT : Tb w) (hC : CV s.caps A c w) :
    Calls Tryd.prog 3 #[.agg #[.int .i64 s.kind, .int .i64 s.node, .int .i64 s.phase, .int .i64 s.pos, .int .i64 s.start, .int .i64 s.depth, .int .i64 s.origin, .slice A s.caps.length c], .int .i64 g] w fun e w' => e = .returned (.bool true) ∧ Below w.heap.size w w' := by
  have hb0 := below_box w (.cells #[.int .i64 s.kind, .int .i64 s.node, .int .i64 s.phase, .int .i64 s.pos, .int .i64 s.start, .int .i64 s.depth, .int .i64 s.origin, .slice A s.caps.length c] 24)
  have CA := hide (anchor_any _ (hN.below hb0 (Nat.le_refl _)))
  have HT := hide (hT.below hb0 (Nat.le_refl _))
  have HC := hide (hC.below hb0)
  have HBX := hide (Blk.new w 24 #[.int .i64 s.kind, .int .i64 s.node, .int .i64 s.phase, .int .i64 s.pos, .int .i64 s.start, .int .i64 s.depth, .int .i64 s.origin, .slice A s.caps.length c])
  have HB := hide hb0
  have hroom := hC.room
  have htop := hC.top
  clear hN hT hC hb0
  go_enter Tryd.func3, Tryd.ntmps3
  go_wp2_with fail
  refine (unhide CA).mono ?_
  rintro e w1 ⟨rfl, hb1⟩
  have HT1 := hide ((unhide HT).below hb1 (Nat.le_refl _))
  have HC1 := hide ((unhide HC).below hb1)
  have hbx := (unhide HBX).below hb1 (unhide HBX).lt
  obtain ⟨c0, c1, c2, c3, c4, c5, c6, c7⟩ := cells8 hbx
  have HB1 := hide ((unhide HB).trans (hb1.mono (unhide HB).size))
  have CR := hide (right_any s A c g w1 (unhide HT1) (unhide HC1))
  clear CA HT HC HBX HB hb1 hbx
  go_upto_region 3 with (fail)
  go_cut [5] from 8 to 46 (fun q wx => q = .bool (wantN s g) ∧ wx = w1)
  case first =>
    by_cases p0 : (decide (0 ≤ g) && decide (g ≤ 99)) = true
    · by_cases p1 : (decide (1 ≤ s.kind) && decide (s.kind ≤ 14)) = true
      · by_cases p2 : (decide (0 ≤ s.node) && decide (s.node ≤ 16384)) = true
        · by_cases p3 : (decide (0 ≤ s.phase) && decide (s.phase ≤ 16384)) = true
          · by_cases p4 : (decide (0 ≤ s.pos) && decide (s.pos ≤ 65536)) = true
            · by_cases p5 : (decide (0 ≤ s.start) && decide (s.start ≤ 65536)) = true
              · by_cases p6 : (decide (0 ≤ s.depth) && decide (s.depth ≤ 65536)) = true
                · by_cases p7 : (decide ((-1) ≤ s.origin) && decide (s.origin ≤ 1048576)) = true
                  · have HQ := hide (show wantN s g = true by unfold wantN; rw [p0, p1, p2, p3, p4, p5, p6, p7]; rfl)
                    have C0 := hide (fun W => within_any g 0 99 W)
                    rw [p0] at C0
                    have C1 := hide (fun W => within_any s.kind 1 14 W)
                    rw [p1] at C1
                    have C2 := hide (fun W => within_any s.node 0 16384 W)
                    rw [p2] at C2
                    have C3 := hide (fun W => within_any s.phase 0 16384 W)
                    rw [p3] at C3
                    have C4 := hide (fun W => within_any s.pos 0 65536 W)
                    rw [p4] at C4
                    have C5 := hide (fun W => within_any s.start 0 65536 W)
                    rw [p5] at C5
                    have C6 := hide (fun W => within_any s.depth 0 65536 W)
                    rw [p6] at C6
                    have C7 := hide (fun W => within_any s.origin (-1) 1048576 W)
                    rw [p7] at C7
                    clear p0 p1 p2 p3 p4 p5 p6 p7
                    go_wp2_with fail
                    refine ((unhide C0) _).mono ?_
                    rintro e w2 ⟨rfl, rfl⟩
                    go_wp2_with fail
                    refine ((unhide C1) _).mono ?_
                    rintro e w2 ⟨rfl, rfl⟩
                    go_wp2_with fail
                    refine ((unhide C2) _).mono ?_
                    rintro e w2 ⟨rfl, rfl⟩
                    go_wp2_with fail
                    refine ((unhide C3) _).mono ?_
                    rintro e w2 ⟨rfl, rfl⟩
                    go_wp2_with fail
                    refine ((unhide C4) _).mono ?_
                    rintro e w2 ⟨rfl, rfl⟩
                    go_wp2_with fail
                    refine ((unhide C5) _).mono ?_
                    rintro e w2 ⟨rfl, rfl⟩
                    go_wp2_with fail
                    refine ((unhide C6) _).mono ?_
                    rintro e w2 ⟨rfl, rfl⟩
                    go_wp2_with fail
                    refine ((unhide C7) _).mono ?_
                    rintro e w2 ⟨rfl, rfl⟩
                    go_wp2_with fail
                    go_meet
                    exact ⟨by rw [unhide HQ], rfl⟩
                  · have n7 : (decide ((-1) ≤ s.origin) && decide (s.origin ≤ 1048576)) = false := by rw [← Bool.not_eq_true]; exact p7
                    have HQ := hide (show wantN s g = false by unfold wantN; rw [n7]; simp)
                    have C0 := hide (fun W => within_any g 0 99 W)
                    rw [p0] at C0
                    have C1 := hide (fun W => within_any s.kind 1 14 W)
                    rw [p1] at C1
                    have C2 := hide (fun W => within_any s.node 0 16384 W)
                    rw [p2] at C2
                    have C3 := hide (fun W => within_any s.phase 0 16384 W)
                    rw [p3] at C3
                    have C4 := hide (fun W => within_any s.pos 0 65536 W)
                    rw [p4] at C4
                    have C5 := hide (fun W => within_any s.start 0 65536 W)
                    rw [p5] at C5
                    have C6 := hide (fun W => within_any s.depth 0 65536 W)
                    rw [p6] at C6
                    have C7 := hide (fun W => within_any s.origin (-1) 1048576 W)
                    rw [n7] at C7
                    clear p0 p1 p2 p3 p4 p5 p6 p7 n7
                    go_wp2_with fail
                    refine ((unhide C0) _).mono ?_
                    rintro e w2 ⟨rfl, rfl⟩
                    go_wp2_with fail
                    refine ((unhide C1) _).mono ?_
                    rintro e w2 ⟨rfl, rfl⟩
                    go_wp2_with fail
                    refine ((unhide C2) _).mono ?_
                    rintro e w2 ⟨rfl, rfl⟩
                    go_wp2_with fail
                    refine ((unhide C3) _).mono ?_
                    rintro e w2 ⟨rfl, rfl⟩
                    go_wp2_with fail
                    refine ((unhide C4) _).mono ?_
                    rintro e w2 ⟨rfl, rfl⟩
                    go_wp2_with fail
                    refine ((unhide C5) _).mono ?_
                    rintro e w2 ⟨rfl, rfl⟩
                    go_wp2_with fail
                    refine ((unhide C6) _).mono ?_
                    rintro e w2 ⟨rfl, rfl⟩
                    go_wp2_with fail
                    refine ((unhide C7) _).mono ?_
                    rintro e w2 ⟨rfl, rfl⟩
                    go_wp2_with fail
                    go_meet
                    exact ⟨by rw [unhide HQ], rfl⟩
                · have n6 : (decide (0 ≤ s.depth) && decide (s.depth ≤ 65536)) = false := by rw [← Bool.not_eq_true]; exact p6
                  have HQ := hide (show wantN s g = false by unfold wantN; rw [n6]; simp)
                  have C0 := hide (fun W => within_any g 0 99 W)
                  rw [p0] at C0
                  have C1 := hide (fun W => within_any s.kind 1 14 W)
                  rw [p1] at C1
                  have C2 := hide (fun W => within_any s.node 0 16384 W)
                  rw [p2] at C2
                  have C3 := hide (fun W => within_any s.phase 0 16384 W)
                  rw [p3] at C3
                  have C4 := hide (fun W => within_any s.pos 0 65536 W)
                  rw [p4] at C4
                  have C5 := hide (fun W => within_any s.start 0 65536 W)
                  rw [p5] at C5
                  have C6 := hide (fun W => within_any s.depth 0 65536 W)
                  rw [n6] at C6
                  clear p0 p1 p2 p3 p4 p5 p6 n6
                  go_wp2_with fail
                  refine ((unhide C0) _).mono ?_
                  rintro e w2 ⟨rfl, rfl⟩
                  go_wp2_with fail
                  refine ((unhide C1) _).mono ?_
                  rintro e w2 ⟨rfl, rfl⟩
                  go_wp2_with fail
                  refine ((unhide C2) _).mono ?_
                  rintro e w2 ⟨rfl, rfl⟩
                  go_wp2_with fail
                  refine ((unhide C3) _).mono ?_
                  rintro e w2 ⟨rfl, rfl⟩
                  go_wp2_with fail
                  refine ((unhide C4) _).mono ?_
                  rintro e w2 ⟨rfl, rfl⟩
                  go_wp2_with fail
                  refine ((unhide C5) _).mono ?_
                  rintro e w2 ⟨rfl, rfl⟩
                  go_wp2_with fail
                  refine ((unhide C6) _).mono ?_
                  rintro e w2 ⟨rfl, rfl⟩
                  go_wp2_with fail
                  go_meet
                  exact ⟨by rw [unhide HQ], rfl⟩
              · have n5 : (decide (0 ≤ s.start) && decide (s.start ≤ 65536)) = false := by rw [← Bool.not_eq_true]; exact p5
                have HQ := hide (show wantN s g = false by unfold wantN; rw [n5]; simp)
                have C0 := hide (fun W => within_any g 0 99 W)
                rw [p0] at C0
                have C1 := hide (fun W => within_any s.kind 1 14 W)
                rw [p1] at C1
                have C2 := hide (fun W => within_any s.node 0 16384 W)
                rw [p2] at C2
                have C3 := hide (fun W => within_any s.phase 0 16384 W)
                rw [p3] at C3
                have C4 := hide (fun W => within_any s.pos 0 65536 W)
                rw [p4] at C4
                have C5 := hide (fun W => within_any s.start 0 65536 W)
                rw [n5] at C5
                clear p0 p1 p2 p3 p4 p5 n5
                go_wp2_with fail
                refine ((unhide C0) _).mono ?_
                rintro e w2 ⟨rfl, rfl⟩
                go_wp2_with fail
                refine ((unhide C1) _).mono ?_
                rintro e w2 ⟨rfl, rfl⟩
                go_wp2_with fail
                refine ((unhide C2) _).mono ?_
                rintro e w2 ⟨rfl, rfl⟩
                go_wp2_with fail
                refine ((unhide C3) _).mono ?_
                rintro e w2 ⟨rfl, rfl⟩
                go_wp2_with fail
                refine ((unhide C4) _).mono ?_
                rintro e w2 ⟨rfl, rfl⟩
                go_wp2_with fail
                refine ((unhide C5) _).mono ?_
                rintro e w2 ⟨rfl, rfl⟩
                go_wp2_with fail
                go_meet
                exact ⟨by rw [unhide HQ], rfl⟩
            · have n4 : (decide (0 ≤ s.pos) && decide (s.pos ≤ 65536)) = false := by rw [← Bool.not_eq_true]; exact p4
              have HQ := hide (show wantN s g = false by unfold wantN; rw [n4]; simp)
              have C0 := hide (fun W => within_any g 0 99 W)
              rw [p0] at C0
              have C1 := hide (fun W => within_any s.kind 1 14 W)
              rw [p1] at C1
              have C2 := hide (fun W => within_any s.node 0 16384 W)
              rw [p2] at C2
              have C3 := hide (fun W => within_any s.phase 0 16384 W)
              rw [p3] at C3
              have C4 := hide (fun W => within_any s.pos 0 65536 W)
              rw [n4] at C4
              clear p0 p1 p2 p3 p4 n4
              go_wp2_with fail
              refine ((unhide C0) _).mono ?_
              rintro e w2 ⟨rfl, rfl⟩
              go_wp2_with fail
              refine ((unhide C1) _).mono ?_
              rintro e w2 ⟨rfl, rfl⟩
              go_wp2_with fail
              refine ((unhide C2) _).mono ?_
              rintro e w2 ⟨rfl, rfl⟩
              go_wp2_with fail
              refine ((unhide C3) _).mono ?_
              rintro e w2 ⟨rfl, rfl⟩
              go_wp2_with fail
              refine ((unhide C4) _).mono ?_
              rintro e w2 ⟨rfl, rfl⟩
              go_wp2_with fail
              go_meet
              exact ⟨by rw [unhide HQ], rfl⟩
          · have n3 : (decide (0 ≤ s.phase) && decide (s.phase ≤ 16384)) = false := by rw [← Bool.not_eq_true]; exact p3
            have HQ := hide (show wantN s g = false by unfold wantN; rw [n3]; simp)
            have C0 := hide (fun W => within_any g 0 99 W)
            rw [p0] at C0
            have C1 := hide (fun W => within_any s.kind 1 14 W)
            rw [p1] at C1
            have C2 := hide (fun W => within_any s.node 0 16384 W)
            rw [p2] at C2
            have C3 := hide (fun W => within_any s.phase 0 16384 W)
            rw [n3] at C3
            clear p0 p1 p2 p3 n3
            go_wp2_with fail
            refine ((unhide C0) _).mono ?_
            rintro e w2 ⟨rfl, rfl⟩
            go_wp2_with fail
            refine ((unhide C1) _).mono ?_
            rintro e w2 ⟨rfl, rfl⟩
            go_wp2_with fail
            refine ((unhide C2) _).mono ?_
            rintro e w2 ⟨rfl, rfl⟩
            go_wp2_with fail
            refine ((unhide C3) _).mono ?_
            rintro e w2 ⟨rfl, rfl⟩
            go_wp2_with fail
            go_meet
            exact ⟨by rw [unhide HQ], rfl⟩
        · have n2 : (decide (0 ≤ s.node) && decide (s.node ≤ 16384)) = false := by rw [← Bool.not_eq_true]; exact p2
          have HQ := hide (show wantN s g = false by unfold wantN; rw [n2]; simp)
          have C0 := hide (fun W => within_any g 0 99 W)
          rw [p0] at C0
          have C1 := hide (fun W => within_any s.kind 1 14 W)
          rw [p1] at C1
          have C2 := hide (fun W => within_any s.node 0 16384 W)
          rw [n2] at C2
          clear p0 p1 p2 n2
          go_wp2_with fail
          refine ((unhide C0) _).mono ?_
          rintro e w2 ⟨rfl, rfl⟩
          go_wp2_with fail
          refine ((unhide C1) _).mono ?_
          rintro e w2 ⟨rfl, rfl⟩
          go_wp2_with fail
          refine ((unhide C2) _).mono ?_
          rintro e w2 ⟨rfl, rfl⟩
          go_wp2_with fail
          go_meet
          exact ⟨by rw [unhide HQ], rfl⟩
      · have n1 : (decide (1 ≤ s.kind) && decide (s.kind ≤ 14)) = false := by rw [← Bool.not_eq_true]; exact p1
        have HQ := hide (show wantN s g = false by unfold wantN; rw [n1]; simp)
        have C0 := hide (fun W => within_any g 0 99 W)
        rw [p0] at C0
        have C1 := hide (fun W => within_any s.kind 1 14 W)
        rw [n1] at C1
        clear p0 p1 n1
        go_wp2_with fail
        refine ((unhide C0) _).mono ?_
        rintro e w2 ⟨rfl, rfl⟩
        go_wp2_with fail
        refine ((unhide C1) _).mono ?_
        rintro e w2 ⟨rfl, rfl⟩
        go_wp2_with fail
        go_meet
        exact ⟨by rw [unhide HQ], rfl⟩
    · have n0 : (decide (0 ≤ g) && decide (g ≤ 99)) = false := by rw [← Bool.not_eq_true]; exact p0
      have HQ := hide (show wantN s g = false by unfold wantN; rw [n0]; simp)
      have C0 := hide (fun W => within_any g 0 99 W)
      rw [n0] at C0
      clear p0 n0
      go_wp2_with fail
      refine ((unhide C0) _).mono ?_
      rintro e w2 ⟨rfl, rfl⟩
      go_wp2_with fail
      go_meet
      exact ⟨by rw [unhide HQ], rfl⟩
  case rest =>
    obtain ⟨rfl, rfl⟩ := hcut
    go_upto_region 4 with (fail)
    go_cut [5] from 8 to 56 (fun q wx => q = .bool (wantL s g) ∧ wx = wc)
    case first =>
      cases hw : wantN s g with
      | false =>
        have HQ := hide (show wantL s g = false by unfold wantL; rw [hw]; rfl)
        clear hw
        go_wp2_with fail
        go_meet
        exact ⟨by rw [unhide HQ], rfl⟩
      | true =>
        have hg : 0 ≤ g ∧ g ≤ 99 := by
          unfold wantN at hw
          simp only [Bool.and_eq_true, decide_eq_true_eq] at hw
          omega
        have HQ := hide (show wantL s g = decide ((s.caps.length : Int) = 2 * g + 2) by unfold wantL; rw [hw]; rfl)
        have e1 : IntKind.i64.wrap (2 * g) = 2 * g := by rw [IntKind.wrap_i64]; omega
        have e2 : IntKind.i64.wrap (2 * g + 2) = 2 * g + 2 := by rw [IntKind.wrap_i64]; omega
        clear hw hg
        by_cases h3 : (s.caps.length : Int) = 2 * g + 2
        · have e3 : ((s.caps.length : Int) == 2 * g + 2) = true := by simp [h3]
          have HQ2 := hide ((unhide HQ).trans (by simp [h3] : _ = true))
          clear h3
          generalize s.caps.length = n at *
          go_wp2_with fail
          go_meet
          exact ⟨by rw [unhide HQ2], rfl⟩
        · have e3 : ((s.caps.length : Int) == 2 * g + 2) = false := by simp [h3]
          have HQ2 := hide ((unhide HQ).trans (by simp [h3] : _ = false))
          clear h3
          generalize s.caps.length = n at *
          go_wp2_with fail
          go_meet
          exact ⟨by rw [unhide HQ2], rfl⟩
    case rest =>
      obtain ⟨rfl, rfl⟩ := hcut
      obtain ⟨n, hn⟩ : ∃ n, s.caps.length = n := ⟨_, rfl⟩
      have HN := hide hn
      rw [hn] at hroom c7 CR ⊢
      clear hn
      go_wp2_with fail
      go_loopw [5, 60] (fun q i wr => LRel s g wc q i wr) (fun _ i _ => n - (intOf i).toNat)
      case atStart => exact ⟨0, rfl, by omega, by simp, rfl⟩
      case round =>
        obtain ⟨k, rfl, hk, rfl, rfl⟩ := hrel
        go_hideQ
        rw [unhide HN] at hk
        by_cases hlt : k < n
        · obtain ⟨x, hx⟩ : ∃ x, s.caps[k]? = some x := ⟨_, List.getElem?_eq_getElem (by rw [unhide HN]; exact hlt)⟩
          obtain ⟨b, off, rfl, hb, hc⟩ := (unhide HC1).reads.flat (by rw [unhide HN]; omega)
          have d1 := hc k (.int .i64 x) (by rw [List.getElem?_map, hx]; rfl)
          have HST := hide (all_step (q := wantL s g) hx)
          have hki : (k : Int) < (n : Int) := by omega
          have CW := hide (within_any x (-1) 65536 wr)
          rw [show (decide ((-1 : Int) ≤ x) && decide (x ≤ 65536)) = okB x from rfl] at CW
          clear hx hc hb
          obtain ⟨q, hq⟩ : ∃ q, (wantL s g && (s.caps.take k).all okB) = q := ⟨_, rfl⟩
          rw [hq] at HST ⊢
          clear hq
          cases q with
          | false =>
            go_wp2_with fail
            have hR : LRel s g wr (.bool false) (.int .i64 ((k : Int) + 1)) wr := ⟨k + 1, by go_num, by rw [unhide HN]; omega, by rw [unhide HST]; rfl, rfl⟩
            have hme : n - (intOf (.int .i64 ((k : Int) + 1))).toNat < n - k := by simp [intOf]; omega
            first | exact ⟨hR, hme⟩ | exact ⟨⟨_, _, _, _, hR, rfl, rfl, rfl⟩, hme⟩ | (go_roundw; exact hR; exact hme)
          | true =>
            go_wp2_with fail
            refine (unhide CW).mono ?_
            rintro e w2 ⟨rfl, rfl⟩
            clear CW
            generalize okB x = y at *
            go_wp2_with fail
            have hR : LRel s g w2 (.bool y) (.int .i64 ((k : Int) + 1)) w2 := ⟨k + 1, by go_num, by rw [unhide HN]; omega, by rw [unhide HST]; rfl, rfl⟩
            have hme : n - (intOf (.int .i64 ((k : Int) + 1))).toNat < n - k := by simp [intOf]; omega
            first | exact ⟨hR, hme⟩ | exact ⟨⟨_, _, _, _, hR, rfl, rfl, rfl⟩, hme⟩ | (go_roundw; exact hR; exact hme)
        · obtain rfl : k = n := by omega
          have e0 : (wantL s g && (s.caps.take k).all okB) = rightB s g := by rw [right_want, List.take_of_length_le (by rw [unhide HN]; omega)]
          rw [e0]
          clear e0
          generalize rightB s g = y at *
          go_wp2_with fail
          refine (unhide CR).mono ?_
          rintro e w2 ⟨rfl, hb2⟩
          have HB2 := hide ((unhide HB1).trans (hb2.mono (unhide HB1).size))
          clear CR hb2
          go_wp2
          go_ret
          exact ⟨by simp, unhide HB2⟩
end
end Go.Proofs.YtcajhkcopfabpaaDoor.Ev
