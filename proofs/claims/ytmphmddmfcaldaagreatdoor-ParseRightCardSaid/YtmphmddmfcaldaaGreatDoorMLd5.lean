/-
  As ScLaid, for rows whose condition speaks of the table of forms, too.
-/
import Derived.Test.YtmphmddmfcaldaaGreatDoorMAsB
import Derived.Test.YtmphmddmfcaldaaGreatDoorMLdA
set_option linter.unusedSimpArgs false
set_option linter.unusedVariables false
set_option maxRecDepth 100000
namespace Go.Proofs.YtmphmddmfcaldaaGreatDoor.As
open Go.ChangeShapes Go.WideShapes Go.ChangeAt Go.RowKit Mem Rs
abbrev list:List (String×DataW Unit):=[("clew/ast.forms",Rows.laid_clew_ast_forms)]
def litI (x:Int):DataW Unit:=.lit (.int .i64 x)
def formD (k:Nat):DataW Unit:=.agg [.agg [litI (loF k 0),litI (loF k 1),litI (loF k 2),litI (loF k 3),litI (loF k 4)],.agg [litI (hiF k 0),litI (hiF k 1),litI (hiF k 2),litI (hiF k 3),litI (hiF k 4)],.lit (.bool (setF k)),.lit (.bool (nameF k))]
def formsD:List (DataW Unit):=(List.range 11).map formD
theorem forms_eq:(Rows.laid_clew_ast_forms:DataW Unit)=.agg formsD:=by kernel_rfl
theorem g_forms:Tryz.prog.globalNamed "clew/ast.forms"=some 0:=by kernel_rfl
theorem y_forms:(Tryz.prog.globals[0]?).map (·.type)=some 92:=by kernel_rfl
theorem c_form:Tryz.prog.cellsOf 91=12:=by kernel_rfl
theorem c_nums:Tryz.prog.cellsOf 76=5:=by kernel_rfl
theorem c_bool:Tryz.prog.cellsOf 4=1:=by kernel_rfl
theorem c_int1:Tryz.prog.cellsOf 3=1:=by kernel_rfl
theorem nums_of {W:World} {enc:TypeId×Value→Unit} {fuel:Nat} {spare:Nat→Bool} {held:Bool} {cs:List Value} {x:DataW Unit×List MemPlace} {a b c d e:Int}
  (h:DataW.trod enc Tryz.prog W 0 spare held fuel 76 cs=some x) (hx:x.1=.agg [litI a,litI b,litI c,litI d,litI e]) (hl:cs.length=5) :
  cs=[.int .i64 a,.int .i64 b,.int .i64 c,.int .i64 d,.int .i64 e]:=by
 obtain ⟨xs,m,-,ex,hlen,hlx,hel⟩:=DataW.trod_array Tryz.underlying76 h
 rw [ex] at hx
 have e3:xs.map (·.1)=[litI a,litI b,litI c,litI d,litI e]:=DataW.agg.inj hx
 clear h ex hx hlen
 revert hel e3
 match xs,hlx,cs,hl with
 | [y0,y1,y2,y3,y4],_,[v0,v1,v2,v3,v4],_=>
  intro hel e3
  have g0:=hel 0 (by omega)
  have g1:=hel 1 (by omega)
  have g2:=hel 2 (by omega)
  have g3:=hel 3 (by omega)
  have g4:=hel 4 (by omega)
  simp only [c_int1,Nat.zero_mul,Nat.one_mul,Nat.mul_one,List.drop_zero,List.drop_succ_cons,List.take_succ_cons,List.take_zero,List.getElem?_cons_zero,List.getElem?_cons_succ] at g0 g1 g2 g3 g4
  simp only [List.map_cons,List.map_nil,List.cons.injEq,and_true,litI] at e3
  obtain ⟨e0,e1,e2,e3,e4⟩:=e3
  obtain ⟨z0,a0,b0,-⟩:=DataW.trod_int Tryz.underlying3 g0
  obtain ⟨z1,a1,b1,-⟩:=DataW.trod_int Tryz.underlying3 g1
  obtain ⟨z2,a2,b2,-⟩:=DataW.trod_int Tryz.underlying3 g2
  obtain ⟨z3,a3,b3,-⟩:=DataW.trod_int Tryz.underlying3 g3
  obtain ⟨z4,a4,b4,-⟩:=DataW.trod_int Tryz.underlying3 g4
  rw [b0] at e0
  rw [b1] at e1
  rw [b2] at e2
  rw [b3] at e3
  rw [b4] at e4
  simp only [DataW.lit.injEq,Lit.int.injEq,true_and] at e0 e1 e2 e3 e4
  simp only [List.cons.injEq,and_true] at a0 a1 a2 a3 a4
  rw [a0,a1,a2,a3,a4,e0,e1,e2,e3,e4]
theorem tab_of {W:World} (h:laidMetH Tryz.prog list W):Fm W:=by
 rw [MakeChecks.laidMetH_plain _ _ _ (by kernel_rfl)] at h
 obtain ⟨ps,⟨g,t,cs,fuel,p,q,hg,ht,hv,hd,-⟩,-⟩:=h
 obtain rfl:=Option.some.inj (g_forms.symm.trans hg)
 obtain rfl:=Option.some.inj (y_forms.symm.trans ht)
 rw [forms_eq] at hd
 obtain ⟨xs,m,-,ex,hlen,hl,hel⟩:=DataW.trod_array Tryz.underlying92 hd
 have e3:xs.map (·.1)=formsD:=(DataW.agg.inj (Prod.mk.inj ex).1).symm
 have key:∀ k:Nat,k<11→(∀ j u,[Value.int .i64 (loF k 0),.int .i64 (loF k 1),.int .i64 (loF k 2),.int .i64 (loF k 3),.int .i64 (loF k 4),.int .i64 (hiF k 0),.int .i64 (hiF k 1),.int .i64 (hiF k 2),.int .i64 (hiF k 3),.int .i64 (hiF k 4),.bool (setF k),.bool (nameF k)][j]?=some u→W.cell? ⟨0,k*12+j,none⟩=some u):=by
  intro k hk
  have hE:=hel k hk
  rw [c_form,List.getElem?_eq_getElem (by omega:k<xs.length)] at hE
  have e4:(xs.map (·.1))[k]?=formsD[k]?:=by rw [e3]
  rw [List.getElem?_map,List.getElem?_eq_getElem (by omega:k<xs.length)] at e4
  simp only [formsD,List.getElem?_map,List.getElem?_range hk,Option.map_some,Option.some.injEq] at e4
  obtain ⟨ys,n',_,hxy,_,hxl,hf⟩:=DataW.trod_struct Tryz.underlying91 hE
  have hcl:(List.take 12 (List.drop (k*12) cs.toList)).length=12:=by
   have hc:Tryz.prog.cellsOf 92=132:=by kernel_rfl
   rw [hc] at hlen
   rw [List.length_take,List.length_drop];omega
  clear ex hel
  revert hxy hf e4
  match ys,hxl with
  | [y0,y1,y2,y3],_=>
   intro e4 hxy hf
   have g0:=hf 0 _ rfl
   have g1:=hf 1 _ rfl
   have g2:=hf 2 _ rfl
   have g3:=hf 3 _ rfl
   rw [hxy] at e4
   simp only [List.map_cons,List.map_nil,formD,DataW.agg.injEq,List.cons.injEq,and_true] at e4
   obtain ⟨q0,q1,q2,q3⟩:=e4
   simp only [c_nums,c_bool,List.getElem?_cons_zero,List.getElem?_cons_succ,List.getElem_toArray,List.getElem_cons_succ,List.getElem_cons_zero] at g0 g1 g2 g3
   generalize hcv:List.take 12 (List.drop (k*12) cs.toList)=cv at *
   revert hcv g0 g1 g2 g3
   match cv,hcl with
   | [w0,w1,w2,w3,w4,w5,w6,w7,w8,w9,w10,w11],_=>
    intro hcv g0 g1 g2 g3
    simp only [List.drop_zero,List.drop_succ_cons,List.take_succ_cons,List.take_zero] at g0 g1 g2 g3
    have r0:=nums_of g0 q0 rfl
    have r1:=nums_of g1 q1 rfl
    obtain ⟨z2,a2,b2⟩:=DataW.trod_bool Tryz.underlying4 g2
    obtain ⟨z3,a3,b3⟩:=DataW.trod_bool Tryz.underlying4 g3
    rw [b2] at q2
    rw [b3] at q3
    simp only [DataW.lit.injEq,Lit.bool.injEq] at q2 q3
    simp only [List.cons.injEq,and_true] at a2 a3 r0 r1
    obtain ⟨r00,r01,r02,r03,r04⟩:=r0
    obtain ⟨r10,r11,r12,r13,r14⟩:=r1
    subst r00 r01 r02 r03 r04 r10 r11 r12 r13 r14
    rw [a2,a3,q2,q3] at hcv
    intro j u hj
    rw [← hcv] at hj
    rw [World.var?_cell hg hv (k*12+j)]
    rw [List.getElem?_take] at hj
    split at hj
    ·rw [List.getElem?_drop,Array.getElem?_toList] at hj
     exact hj
    ·cases hj
 refine ⟨fun k i hk hi=>?_,fun k i hk hi=>?_,fun k hk=>key k hk 10 _ rfl,fun k hk=>key k hk 11 _ rfl⟩
 ·match i,hi with
  | 0,_=>exact key k hk 0 _ rfl
  | 1,_=>exact key k hk 1 _ rfl
  | 2,_=>exact key k hk 2 _ rfl
  | 3,_=>exact key k hk 3 _ rfl
  | 4,_=>exact key k hk 4 _ rfl
 ·rw [Nat.add_assoc]
  match i,hi with
  | 0,_=>exact key k hk 5 _ rfl
  | 1,_=>exact key k hk 6 _ rfl
  | 2,_=>exact key k hk 7 _ rfl
  | 3,_=>exact key k hk 8 _ rfl
  | 4,_=>exact key k hk 9 _ rfl
end Go.Proofs.YtmphmddmfcaldaaGreatDoor.As
namespace Go.Proofs.YtmphmddmfcaldaaGreatDoor.Sc
open Go.ChangeShapes Go.WideShapes Go.ChangeAt Go.RowKit Go.ChangeMaps Mem
abbrev list5:List (String×DataW Unit):=[("unicode/utf8.acceptRanges",Rows.laid_unicode_utf8_acceptRanges),("clew/ast.forms",Rows.laid_clew_ast_forms),("clew/class.sets",Rows.laid_clew_class_sets),("clew/fold.rows",Rows.laid_clew_fold_rows),("unicode/utf8.first",Rows.laid_unicode_utf8_first)]
theorem gl5 {W:World} (h:laidMetH Tryz.prog list5 W) (hs:W.ShapedOpen Tryz.prog):Gl W∧As.Fm W:=by
 rw [MakeChecks.laidMetH_plain _ _ _ (by kernel_rfl)] at h
 have sub:∀ l',l'.Sublist list5→(l'.all fun x:String×DataW Unit=>x.2.handleName?.isNone)=true→laidMetH Tryz.prog l' W:=fun l' h1 h2=>by
  rw [MakeChecks.laidMetH_plain _ _ _ h2]
  exact laidMet_sub h1 h
 refine ⟨gl_of (sub list ?_ (by kernel_rfl)) hs,As.tab_of (sub As.list ?_ (by kernel_rfl))⟩
 ·exact .cons_cons _ (.cons _ (.cons_cons _ (.cons_cons _ (.cons_cons _ .slnil))))
 ·exact .cons _ (.cons_cons _ (.cons _ (.cons _ (.cons _ .slnil))))
end Go.Proofs.YtmphmddmfcaldaaGreatDoor.Sc
