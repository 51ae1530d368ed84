/-
  string(b) of bytes that read as a list: the string of these bytes.
-/
import Derived.Test.YtmlbklcmblofkaaGreatDoorMPuB
import Derived.Test.YtmlbklcmblofkaaGreatDoorMMemA
import Derived.Test.YtmlbklcmblofkaaGreatDoorProg
import Derived.WalkKit
import Derived.Laws.IdiomStrings
import Derived.KernelRfl
set_option linter.unusedSimpArgs false
set_option linter.unusedVariables false
set_option maxHeartbeats 400000
namespace Go.Proofs.YtmlbklcmblofkaaGreatDoor.Is
open Go.RowKit Sy Mem
theorem ret_bool {a b:Bool} (h:a=b):Ending.returned (.bool a)=.returned (.bool b):=by rw [h]
theorem is_a (x:Int) (w:World) (h1:x<0):Calls Tryz.prog 124 #[.int .i64 x] w fun e w'=>e=.returned (.bool false)∧w'=w:=by
 go_enter Tryz.func124,Tryz.ntmps124
 go_wp2
 go_ret
 first
  | exact ⟨rfl,rfl⟩
  | exact ⟨ret_bool (decide_eq_false (by omega)),rfl⟩
  | exact ⟨ret_bool (decide_eq_true (by omega)),rfl⟩
  | (refine ⟨ret_bool (?_:(_||_)=false),rfl⟩;simp<;>omega)
theorem is_b (x:Int) (w:World) (h1:0≤x) (h2:x≤55295):Calls Tryz.prog 124 #[.int .i64 x] w fun e w'=>e=.returned (.bool true)∧w'=w:=by
 go_enter Tryz.func124,Tryz.ntmps124
 go_wp2
 go_ret
 first
  | exact ⟨rfl,rfl⟩
  | exact ⟨ret_bool (decide_eq_false (by omega)),rfl⟩
  | exact ⟨ret_bool (decide_eq_true (by omega)),rfl⟩
  | (refine ⟨ret_bool (?_:(_||_)=false),rfl⟩;simp<;>omega)
theorem is_c (x:Int) (w:World) (h1:55296≤x) (h2:x≤57343):Calls Tryz.prog 124 #[.int .i64 x] w fun e w'=>e=.returned (.bool false)∧w'=w:=by
 go_enter Tryz.func124,Tryz.ntmps124
 go_wp2
 go_ret
 first
  | exact ⟨rfl,rfl⟩
  | exact ⟨ret_bool (decide_eq_false (by omega)),rfl⟩
  | exact ⟨ret_bool (decide_eq_true (by omega)),rfl⟩
  | (refine ⟨ret_bool (?_:(_||_)=false),rfl⟩;simp<;>omega)
theorem is_d (x:Int) (w:World) (h1:57344≤x) (h2:x≤1114111):Calls Tryz.prog 124 #[.int .i64 x] w fun e w'=>e=.returned (.bool true)∧w'=w:=by
 go_enter Tryz.func124,Tryz.ntmps124
 go_wp2
 go_ret
 first
  | exact ⟨rfl,rfl⟩
  | exact ⟨ret_bool (decide_eq_false (by omega)),rfl⟩
  | exact ⟨ret_bool (decide_eq_true (by omega)),rfl⟩
  | (refine ⟨ret_bool (?_:(_||_)=false),rfl⟩;simp<;>omega)
theorem is_e (x:Int) (w:World) (h1:1114112≤x) (h2:x≤1114239):Calls Tryz.prog 124 #[.int .i64 x] w fun e w'=>e=.returned (.bool false)∧w'=w:=by
 go_enter Tryz.func124,Tryz.ntmps124
 go_wp2
 go_ret
 first
  | exact ⟨rfl,rfl⟩
  | exact ⟨ret_bool (decide_eq_false (by omega)),rfl⟩
  | exact ⟨ret_bool (decide_eq_true (by omega)),rfl⟩
  | (refine ⟨ret_bool (?_:(_||_)=false),rfl⟩;simp<;>omega)
theorem is_f (x:Int) (w:World) (h1:1114240≤x) (h2:x≤1114367):Calls Tryz.prog 124 #[.int .i64 x] w fun e w'=>e=.returned (.bool true)∧w'=w:=by
 go_enter Tryz.func124,Tryz.ntmps124
 go_wp2
 go_ret
 first
  | exact ⟨rfl,rfl⟩
  | exact ⟨ret_bool (decide_eq_false (by omega)),rfl⟩
  | exact ⟨ret_bool (decide_eq_true (by omega)),rfl⟩
  | (refine ⟨ret_bool (?_:(_||_)=false),rfl⟩;simp<;>omega)
theorem is_g (x:Int) (w:World) (h1:1114368≤x):Calls Tryz.prog 124 #[.int .i64 x] w fun e w'=>e=.returned (.bool false)∧w'=w:=by
 go_enter Tryz.func124,Tryz.ntmps124
 go_wp2
 go_ret
 first
  | exact ⟨rfl,rfl⟩
  | exact ⟨ret_bool (decide_eq_false (by omega)),rfl⟩
  | exact ⟨ret_bool (decide_eq_true (by omega)),rfl⟩
  | (refine ⟨ret_bool (?_:(_||_)=false),rfl⟩;simp<;>omega)
theorem is_any (x:Int) (w:World):Calls Tryz.prog 124 #[.int .i64 x] w fun e w'=>e=.returned (.bool (isS x))∧w'=w:=by
 have ht:∀ {q:Prop} [Decidable q],q→decide q=true:=fun h=>decide_eq_true h
 have hf:∀ {q:Prop} [Decidable q],¬ q→decide q=false:=fun h=>decide_eq_false h
 unfold isS
 by_cases g0:x<0
 ·rw [hf (by omega)];exact is_a x w (by omega)
 by_cases g1:x≤55295
 ·rw [ht (by omega)];exact is_b x w (by omega) (by omega)
 by_cases g2:x≤57343
 ·rw [hf (by omega)];exact is_c x w (by omega) (by omega)
 by_cases g3:x≤1114111
 ·rw [ht (by omega)];exact is_d x w (by omega) (by omega)
 by_cases g4:x≤1114239
 ·rw [hf (by omega)];exact is_e x w (by omega) (by omega)
 by_cases g5:x≤1114367
 ·rw [ht (by omega)];exact is_f x w (by omega) (by omega)
 rw [hf (by omega)];exact is_g x w (by omega)
end Go.Proofs.YtmlbklcmblofkaaGreatDoor.Is
namespace Go.Proofs.YtmlbklcmblofkaaGreatDoor.Str
open Go.RowKit Mem
theorem conv_str (bs:List UInt8) (B n cap:Nat) (A:Option Addr) (w:World) (hn:bs.length=n) (h:Reads w B 1 A n (bs.map u8)) :
  (convert 43 9 (.slice A n cap)).run Tryz.prog w=.ok (.string ⟨bs.toArray⟩) w:=by
 subst hn
 cases A with
 | none=>
  have h0:bs.length=0:=by
   rcases Nat.eq_zero_or_pos bs.length with h0|h0
   ·exact h0
   ·obtain ⟨ad,h,_⟩:=h.2 h0
    cases h
  rw [run_convert_bytes_nil w _ _ Tryz.underlying43 Tryz.underlying5 _ _ _ Tryz.underlying9,List.eq_nil_of_length_eq_zero h0]
  rfl
 | some a=>
  refine run_convert_bytes_back w _ _ _ a cap bs Tryz.underlying43 Tryz.underlying5 Tryz.underlying9 fun j hj=>?_
  obtain ⟨ad,e,_,hc⟩:=h.2 (by omega)
  cases e
  exact hc j (u8 bs[j]) (by simp [hj])
end Go.Proofs.YtmlbklcmblofkaaGreatDoor.Str
