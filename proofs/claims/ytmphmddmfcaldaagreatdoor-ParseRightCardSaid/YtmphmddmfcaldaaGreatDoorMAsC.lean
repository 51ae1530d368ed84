/-
  Plain functions, no program: the tree that the parser lays may be.
-/
import Derived.Test.YtmphmddmfcaldaaGreatDoorMAsB
import Derived.Laws.MakeOwn
import Derived.Test.YtmphmddmfcaldaaGreatDoorMPaGd
set_option linter.unusedSimpArgs false
set_option linter.unusedVariables false
set_option maxHeartbeats 4000000
set_option maxRecDepth 100000
namespace Go.Proofs.YtmphmddmfcaldaaGreatDoor.RegTail
open Go
variable {a:Act} {w:World}
def Only (R:Act→World→Prop):Exit→Act→World→Prop
 | .normal,a,w=>R a w
 | _,_,_=>False
theorem only_norm {R:Act→World→Prop} (h:R a w):Only R .normal a w:=h
theorem only_out {R:Act→World→Prop}:¬ LetsOut (Only R):=fun ⟨_,_,h⟩=>h
def isDefer (o:Oper):Bool:=match o.op with
 | .defer _=>true
 | _=>false
theorem not_defer {o:Oper} (h:isDefer o=false):∀ c,o.op≠.defer c:=fun c e=>by
 unfold isDefer at h
 rw [e] at h
 cases h
section
variable {P:Program} {ops:Array Oper} {md:Region.Mode} {m l:Nat} {R:Act→World→Prop} {Q:Exit→Act→World→Prop}
theorem wpIn_of_wp {o:Oper} {K K':Act→World→Prop} (hd:isDefer o=false) (hK:∀ a w,K a w→K' a w) (h:o.wp P a w K (Only R)):o.wpIn (Fence.wide.inRound l) m P a w K' Q:=by
 refine ⟨fun _ _=>trivial,?_⟩
 rw [Fence.inRound_round,Oper.semAt_some l _ _ (not_defer hd)]
 unfold Oper.wp at h
 generalize (execOp a.eval o).run P w=r at *
 cases r with
 | ok n w'=>
  cases n<;>simp only [Oper.upon] at h<;>simp only [Oper.uponIn]
  case enter f args=>
   refine ⟨(fun hd=>by cases hd),?_⟩
   have h2:=callsIn_wide (n:=m-1) |>.2 h
   exact CallsIn.mono (show CallsIn (Fence.wide.inRound l) (m-1) P f args w' _ from h2) (fun e w'' he=>by
    cases e with
    | returned v=>exact hK _ _ he
    | panicked c=>exact he.elim
    | outgrown=>exact (only_out he).elim)
  case row row args=>
   refine ⟨(fun hd=>by cases hd),fun c cs _=>?_⟩
   obtain ⟨v,w',r,s⟩:=h c cs
   exact ⟨v,w',hK _ _ r,stepsIn_wide.2 s⟩
  all_goals (first|exact hK _ _ h|exact h.elim)
 | halt x w'=>cases x<;>simp only [Oper.upon] at h<;>exact h.elim
theorem wpOpIn_of_wpOp {i:Nat} {K K':Act→World→Prop} (hd:ops.any isDefer=false) (hK:∀ a w,K a w→K' a w) (h:wpOp P ops (Only R) i K a w):wpOpIn (Fence.wide.inRound l) m P ops Q i K' a w:=by
 unfold wpOp at h
 unfold wpOpIn
 cases ho:ops[i]? with
 | none=>simp only [ho] at h ⊢;exact hK _ _ h
 | some o=>
  simp only [ho] at h ⊢
  have hdo:isDefer o=false:=by
   obtain ⟨hlt,e⟩:=Array.getElem?_eq_some_iff.1 ho
   have:=Array.any_eq_false.1 hd i hlt
   rw [e] at this
   simpa using this
  split
  ·rename_i hw
   rw [if_pos hw] at h
   rcases h with h|h
   ·exact wpIn_of_wp hdo hK h
   ·exact (only_out h.2).elim
  ·rename_i hw
   rw [if_neg hw] at h
   exact ⟨fun _ _=>trivial,hK _ _ h⟩
theorem wpAnyIn_of_wpAny (hd:ops.any isDefer=false) (hR:∀ a w,R a w→Q .normal a w):∀ (fuel:Nat) (listed:Array Bool) (a:Act) (w:World),wpAny P md ops (Only R) fuel listed a w→wpAnyIn (Fence.wide.inRound l) m P md ops Q fuel listed a w
 | 0,_,_,_,h=>⟨h.1,hR _ _ h.2⟩
 | fuel+1,_,_,_,h=>⟨fun h0=>hR _ _ (h.1 h0),fun i hi=>wpOpIn_of_wpOp hd (fun a' w' h'=>wpAnyIn_of_wpAny hd hR fuel _ a' w' h') (h.2 i hi)⟩
theorem wpIn_region_held {S:World→Prop} {id:Nat} (hm:P.follows .mixedOrders=true) (hd:ops.any isDefer=false) (hS:S w.drew)
  (h:S w.drew→wpAnyH P .any ops (Only fun a w=>Q .normal a w) S ops.size (Array.replicate ops.size false) a w.drew):(Code.region id ops true).wpIn (Fence.wide.inRound l) m P Q a w:=
 wpIn_region_any hm (wpAnyIn_of_wpAny hd (fun _ _ h=>h) _ _ _ _ (wpAny_of_held _ _ _ _ (h hS)))
end
end Go.Proofs.YtmphmddmfcaldaaGreatDoor.RegTail
namespace Go.Proofs.YtmphmddmfcaldaaGreatDoor.As
section
open Go.RowKit Go.Shelf Mem Rs
attribute [local go_sem] Oper.semAt_some run_not_true run_not_false
def ints (es:List Int):Array Value:=(es.map Mem.i64).toArray
theorem made_zero (n:Nat):madeCells #[.int .i64 0] n=ints (List.replicate n 0):=by
 unfold madeCells ints
 apply Array.ext
 ·simp
 ·intro i h1 h2
  have:i % 1=0:=Nat.mod_one i
  simp [Mem.i64,this]
theorem info_int:(Tryz.prog.info? 3).map (fun i=>(i.zero,i.size,i.bytes))=some (some (.int .i64 0),1,8):=by kernel_rfl
theorem make_ends (n:Nat) (hn:n≤100000) (W:World):Sem.run Tryz.prog (Instr.makeSlice 32 (.int .i64 (n:Int)) (.int .i64 (n:Int))) W=.ok (.slice (some ⟨W.heap.size,0,none⟩) n n) (W.alloc (.cells (ints (List.replicate n 0)) 3)):=by
 obtain ⟨i0,hi,hz0,hz1,hz2⟩:=info_parts info_int
 have:=run_makeSlice (P:=Tryz.prog) W 32 3 i0 (.int .i64 0) Tryz.underlying32 hi hz0 .i64 .i64 (n:Int) (n:Int) (by omega) (Int.le_refl _) (by rw [hz1];simp;omega) (by rw [hz2];omega) (by omega)
 rw [this,hz1,Int.toNat_natCast,Nat.mul_one]
 exact congrArg (fun z=>Result.ok _ (W.alloc (.cells z 3))) (made_zero n)
def KO (w w5:World) (k:Nat):Prop:=k<w5.heap.size∧k≠w.heap.size+2
def OIn0 (L:List Nd) (w w5:World) (pre:List (Fin L.length)) (W:World):Prop:=∃ es:List Int,(Blk W (w.heap.size+2) 3 (ints es)∧(Stays (KO w w5) w5 W∧w5.heap.size≤W.heap.size))∧(es.length=L.length∧Known L es pre)
def OInv (L:List Nd) (w w5:World) (pre:List (Fin L.length)) (W:World):Prop:=OIn0 L w w5 pre W∧Below w.heap.size w W
def OEx (L:List Nd) (w:World) (c:Code) (pre:List (Fin L.length)) (W:World):Prop:=(Blk W (w.heap.size+1) 4 #[.bool false]∧Below w.heap.size w W)∧(c=.ret∧(pre <+: items L.length→ordB L=false))
theorem blk_own0 (p:Nat) (t:TypeId) (cs:Array Value) (C:Nat) {β:Type}:OwnFrom C (fun (_:β) W=>Blk W p t cs):=fun _ X Y row hs hg hr=>
 hs.grown hg (fun e=>by obtain ⟨-,o,ho,hc⟩:=hr p e.symm;rw [show X.heap[p]?=_ from hs] at ho;cases ho;cases hc)
theorem oin0_own (L:List Nd) (w w5:World):OwnFrom w5.heap.size (OIn0 L w w5):=fun pre X Y row hs hg hr=>by
 obtain ⟨es,⟨h1,h2,h3⟩,h4⟩:=hs
 refine ⟨es,⟨blk_own0 _ _ _ _ () X Y row h1 hg hr,fun k hk=>?_,Nat.le_trans h3 hg.size⟩,h4⟩
 rw [← h2 k hk]
 exact hg.block k (Nat.lt_of_lt_of_le hk.1 h3) (fun e=>by have:=(hr k e.symm).1;have:=hk.1;omega)
theorem oinv_own (L:List Nd) (w w5:World) (hC:w.heap.size≤w5.heap.size):OwnFrom w5.heap.size (OInv L w w5):=OwnFrom.and (oin0_own L w w5) (ownFrom_below (Nat.le_refl _) hC)
theorem oex_own (L:List Nd) (w:World) (c:Code) (C:Nat) (hC:w.heap.size≤C):OwnFrom C (OEx L w c):=
 OwnFrom.and (OwnFrom.and (blk_own0 _ _ _ _) (ownFrom_below (Nat.le_refl _) hC)) (ownFrom_pure _ _)
def OrdRel (L:List Nd) (nd:Nd) (e:Nat→Int) (x:Nat) (W:World) (en i:Value) (wr:World):Prop:=∃ (k:Nat) (z:Int),i=.int .i64 k∧en=.int .i64 z∧k≤nd.kids.length∧kidsB L nd e (nd.kids.drop k) z=kidsB L nd e nd.kids ((x:Int)+1)∧kidsZ e (nd.kids.drop k) z=kidsZ e nd.kids ((x:Int)+1)∧Below W.heap.size W wr
def OSlots (b off cap:Nat) (L:List Nd) (g:Int) (c:Value) (sv kv:Nat→Sl) (w:World) (x:Fin L.length) (p:Nat):Act:=
 { tmps:=#[.agg #[.slice (some ⟨b,off,none⟩) L.length cap,.int .i64 g,c],.pointer (some ⟨w.heap.size,0,none⟩),.pointer (some ⟨w.heap.size+1,0,none⟩),.pointer (some ⟨w.heap.size+1+1+1,0,none⟩),.int .i64 (x.val:Int),.pointer (some ⟨p,0,none⟩),undef,undef,undef,.pointer (some ⟨w.heap.size,0,none⟩),.slice (some ⟨b,off,none⟩) L.length cap,.int .i64 (L.length:Int),.slice (some ⟨w.heap.size+1+1,0,none⟩) L.length L.length,.pointer (some ⟨w.heap.size,0,none⟩),.slice (some ⟨b,off,none⟩) L.length cap,.func (.func 54) #[] #[.pointer (some ⟨w.heap.size+4,0,none⟩)],.int .i64 (x.val:Int),.agg #[.int .i64 (L.get x).kind,.int .i64 (L.get x).from_,.int .i64 (L.get x).to_,.int .i64 (L.get x).num,.int .i64 (L.get x).mn,.int .i64 (L.get x).mx,.int .i64 (L.get x).mode,str (L.get x).name,.slice (sv x.val).a (sv x.val).n (sv x.val).c,.slice (kv x.val).a (kv x.val).n (kv x.val).c],undef,undef,undef,undef,undef,undef,undef,undef,undef,undef,undef,undef,undef,undef,undef,undef,undef,undef,undef,undef,undef,undef,undef,undef,undef,undef,undef,undef,undef,undef,undef,undef,undef,undef,undef,undef,undef,undef,undef,undef,undef,undef,undef,undef],defers:=[] }
def OAx (b off cap:Nat) (L:List Nd) (g:Int) (c:Value) (sv kv:Nat→Sl) (w:World) (x:Fin L.length) (a:Act) (W:World):Prop:=∃ p,a=OSlots b off cap L g c sv kv w x p∧Blk W p 34 #[.int .i64 (L.get x).kind,.int .i64 (L.get x).from_,.int .i64 (L.get x).to_,.int .i64 (L.get x).num,.int .i64 (L.get x).mn,.int .i64 (L.get x).mx,.int .i64 (L.get x).mode,str (L.get x).name,.slice (sv x.val).a (sv x.val).n (sv x.val).c,.slice (kv x.val).a (kv x.val).n (kv x.val).c]
theorem oax_own (b off cap:Nat) (L:List Nd) (g:Int) (c:Value) (sv kv:Nat→Sl) (w:World) (C:Nat) (x:Fin L.length) (a:Act):OwnFrom C (fun (_:Unit) W=>OAx b off cap L g c sv kv w x a W):=fun s X Y row hs hg hr=>by
 obtain ⟨p,e,hb⟩:=hs
 exact ⟨p,e,blk_own0 p _ _ C s X Y row hb hg hr⟩
theorem ordered_in (L:List Nd) (hpos:0<L.length) (hlen:L.length≤100000) (b off cap:Nat) (hcap:L.length≤cap) (hc2:cap≤9223372036854775807) (g:Int) (c:Value) (sv kv:Nat→Sl) (w:World) (hb:b<w.heap.size) (hL:Lies10 w b off L sv kv) (hK:∀ (k:Nat) nd,L[k]?=some nd→KidsV w w.heap.size nd.kids (.slice (kv k).a (kv k).n (kv k).c)) :
  Calls Tryz.prog 21 #[.agg #[.slice (some ⟨b,off,none⟩) L.length cap,.int .i64 g,c]] w fun e w'=>e=.returned (.bool (ordB L))∧Below w.heap.size w w':=by
 refine (callsIn_wide (n:=3)).1 ?_
 have hmk:=make_ends L.length hlen
 have HL:=hide hL
 have HKV:=hide hK
 clear hL hK
 have hz4:((((w.alloc (.cells #[.slice (some ⟨b,off,none⟩) L.length cap,.int .i64 g,c] 27)).alloc (.cells #[.bool false] 4)).alloc (.cells (ints (List.replicate L.length 0)) 3)).alloc (.cells #[.slice (some ⟨w.heap.size+1+1,0,none⟩) L.length L.length] 32)).heap.size=w.heap.size+4:=by simp
 have hB4:Below w.heap.size w ((((w.alloc (.cells #[.slice (some ⟨b,off,none⟩) L.length cap,.int .i64 g,c] 27)).alloc (.cells #[.bool false] 4)).alloc (.cells (ints (List.replicate L.length 0)) 3)).alloc (.cells #[.slice (some ⟨w.heap.size+1+1,0,none⟩) L.length L.length] 32)):=((((Below.refl w.heap.size w).alloc (Nat.le_refl _) _).alloc (by simp) _).alloc (by simp;omega) _).alloc (by simp;omega) _
 have bT:Blk ((((w.alloc (.cells #[.slice (some ⟨b,off,none⟩) L.length cap,.int .i64 g,c] 27)).alloc (.cells #[.bool false] 4)).alloc (.cells (ints (List.replicate L.length 0)) 3)).alloc (.cells #[.slice (some ⟨w.heap.size+1+1,0,none⟩) L.length L.length] 32)) w.heap.size 27 #[.slice (some ⟨b,off,none⟩) L.length cap,.int .i64 g,c]:=(((Blk.new w 27 #[.slice (some ⟨b,off,none⟩) L.length cap,.int .i64 g,c]).alloc _).alloc _).alloc _
 have bR:Blk ((((w.alloc (.cells #[.slice (some ⟨b,off,none⟩) L.length cap,.int .i64 g,c] 27)).alloc (.cells #[.bool false] 4)).alloc (.cells (ints (List.replicate L.length 0)) 3)).alloc (.cells #[.slice (some ⟨w.heap.size+1+1,0,none⟩) L.length L.length] 32)) (w.heap.size+1) 4 #[.bool false]:=by
  have:=((Blk.new (w.alloc (.cells #[.slice (some ⟨b,off,none⟩) L.length cap,.int .i64 g,c] 27)) 4 #[.bool false]).alloc (.cells (ints (List.replicate L.length 0)) 3)).alloc (.cells #[.slice (some ⟨w.heap.size+1+1,0,none⟩) L.length L.length] 32)
  simpa only [World.size_alloc] using this
 have bE:Blk ((((w.alloc (.cells #[.slice (some ⟨b,off,none⟩) L.length cap,.int .i64 g,c] 27)).alloc (.cells #[.bool false] 4)).alloc (.cells (ints (List.replicate L.length 0)) 3)).alloc (.cells #[.slice (some ⟨w.heap.size+1+1,0,none⟩) L.length L.length] 32)) (w.heap.size+2) 3 (ints (List.replicate L.length 0)):=by
  have:=(Blk.new ((w.alloc (.cells #[.slice (some ⟨b,off,none⟩) L.length cap,.int .i64 g,c] 27)).alloc (.cells #[.bool false] 4)) 3 (ints (List.replicate L.length 0))).alloc (.cells #[.slice (some ⟨w.heap.size+1+1,0,none⟩) L.length L.length] 32)
  simpa only [World.size_alloc] using this
 have bB:Blk ((((w.alloc (.cells #[.slice (some ⟨b,off,none⟩) L.length cap,.int .i64 g,c] 27)).alloc (.cells #[.bool false] 4)).alloc (.cells (ints (List.replicate L.length 0)) 3)).alloc (.cells #[.slice (some ⟨w.heap.size+1+1,0,none⟩) L.length L.length] 32)) (w.heap.size+3) 32 #[.slice (some ⟨w.heap.size+1+1,0,none⟩) L.length L.length]:=by
  have:=Blk.new (((w.alloc (.cells #[.slice (some ⟨b,off,none⟩) L.length cap,.int .i64 g,c] 27)).alloc (.cells #[.bool false] 4)).alloc (.cells (ints (List.replicate L.length 0)) 3)) 32 #[.slice (some ⟨w.heap.size+1+1,0,none⟩) L.length L.length]
  simpa only [World.size_alloc] using this
 have c0:=bT.cell 0
 have HB4:=hide hB4
 have HBT:=hide bT
 have HBR:=hide bR
 have HBE:=hide bE
 have HBB:=hide bB
 clear hB4 bT bR bE bB
 refine callsIn_of_wp_marks Tryz.func21 rfl trivial ?_ rfl
 simp only [Tryz.ntmps21,List.size_toArray,List.length_cons,List.length_nil,Nat.reduceAdd,Nat.reduceSub,Array.replicate_succ,Array.replicate_zero,List.push_toArray,List.append_toArray,List.nil_append,List.cons_append]
 gi_wp2_with fail
 refine ⟨trivial,?_⟩
 refine (callsIn_wide.2 (backward_any (some ⟨b,off,none⟩) L.length cap _)).mono ?_
 rintro e w5 ⟨rfl,hw5⟩
 rw [hz4]
 have bp:Blk w5 (w.heap.size+4) 24 #[.slice (some ⟨b,off,none⟩) L.length cap]:=by
  have:=Blk.new ((((w.alloc (.cells #[.slice (some ⟨b,off,none⟩) L.length cap,.int .i64 g,c] 27)).alloc (.cells #[.bool false] 4)).alloc (.cells (ints (List.replicate L.length 0)) 3)).alloc (.cells #[.slice (some ⟨w.heap.size+1+1,0,none⟩) L.length L.length] 32)) 24 #[.slice (some ⟨b,off,none⟩) L.length cap]
  rw [hw5,← hz4];exact this
 have hz5:w5.heap.size=w.heap.size+5:=by rw [hw5,World.size_alloc,hz4]
 have hB5:Below w.heap.size w w5:=by rw [hw5];exact HB4.1.alloc HB4.1.size _
 have bT:Blk w5 w.heap.size 27 #[.slice (some ⟨b,off,none⟩) L.length cap,.int .i64 g,c]:=by rw [hw5];exact HBT.1.alloc _
 have bR:Blk w5 (w.heap.size+1) 4 #[.bool false]:=by rw [hw5];exact HBR.1.alloc _
 have bE:Blk w5 (w.heap.size+2) 3 (ints (List.replicate L.length 0)):=by rw [hw5];exact HBE.1.alloc _
 have bB:Blk w5 (w.heap.size+3) 32 #[.slice (some ⟨w.heap.size+1+1,0,none⟩) L.length L.length]:=by rw [hw5];exact HBB.1.alloc _
 clear hw5 HB4 HBT HBR HBE HBB c0 hz4 hmk
 have hKlt:=kb_lt (B:=w.heap.size) (p:=w.heap.size+4) (w:=w5) (by omega) (by omega)
 gi_wp2_with fail
 refine wpIn_rangeFunc_ownH rfl (by omega) (gf:=54) (lb:=#[.pointer (some ⟨w.heap.size+4,0,none⟩)]) rfl trivial (enters_of Tryz.func54 (by kernel_rfl) rfl)
  (back_stops (3-1) (by omega) w.heap.size (w.heap.size+4) b off cap L sv kv hlen hcap w5 hb (by omega) (HL.1.keep (hB5.block b hb)) bp) keeps_t (keeps_b hKlt) (Below.refl _ _) (fun _=>rfl)
  (OInv L w w5)
  (OEx L w)
  (oinv_own L w w5 (by omega))
  (fun c=>oex_own L w c _ (by omega))
  ⟨⟨List.replicate L.length 0,⟨bE,Stays.refl _ _,Nat.le_refl _⟩,by simp,known_nil _ _⟩,hB5⟩
  (OAx b off cap L g c sv kv w) (fun x a'=>oax_own b off cap L g c sv kv w _ x a') ?assign ?body ?done ?stop
 case assign=>
  intro lp pre x W Kc hI hK
  have hz2:w5.heap.size≤W.heap.size:=by obtain ⟨⟨es,⟨_,_,h⟩,_⟩,_⟩:=hI;exact h
  have hk:=hide (hK (OSlots b off cap L g c sv kv w x W.heap.size) (W.alloc (.cells #[.int .i64 (L.get x).kind,.int .i64 (L.get x).from_,.int .i64 (L.get x).to_,.int .i64 (L.get x).num,.int .i64 (L.get x).mn,.int .i64 (L.get x).mx,.int .i64 (L.get x).mode,str (L.get x).name,.slice (sv x.val).a (sv x.val).n (sv x.val).c,.slice (kv x.val).a (kv x.val).n (kv x.val).c] 34)) ((KeepsOthers.alloc _ _).from _) ⟨fun k hk=>Below.heap_alloc _ _ k (by rcases hk with h|h<;>omega),by simp⟩
   ((oinv_own L w w5 (by omega)).alloc _ hI) ⟨_,rfl,Blk.new _ _ _⟩)
  clear hK hI
  gi_wp2
  exact hk.1
 case body=>
  rintro lp pre x a' W hlp hlpr ⟨⟨es,⟨hE,hS,hsz⟩,hl,hkn⟩,hBw⟩ ⟨p,rfl,hblk⟩ hltp
  have bT2:Blk W w.heap.size 27 #[.slice (some ⟨b,off,none⟩) L.length cap,.int .i64 g,c]:=(hS _ ⟨by omega,by omega⟩).trans bT
  have bR2:Blk W (w.heap.size+1) 4 #[.bool false]:=(hS _ ⟨by omega,by omega⟩).trans bR
  have bB2:Blk W (w.heap.size+3) 32 #[.slice (some ⟨w.heap.size+1+1,0,none⟩) L.length L.length]:=(hS _ ⟨by omega,by omega⟩).trans bB
  have hget:L[x.val]?=some (L.get x):=List.getElem?_eq_getElem x.isLt
  have hkv:=HKV.1 x.val (L.get x) hget
  have hxl:=x.isLt
  unfold OSlots
  generalize L.get x=nd at *
  generalize kv x.val=kx at *
  generalize sv x.val=sx at *
  obtain ⟨ka,kn,kc⟩:=kx
  obtain ⟨A9,cap9,e9,k1,k2,k3⟩:=hkv
  simp only [Value.slice.injEq] at e9
  obtain ⟨rfl,rfl,rfl⟩:=e9
  have n9:=hblk.cell 9
  have HE2:=hide hE
  have HS2:=hide hS
  have HBW:=hide hBw
  have HTB:=hide bT2
  have HRB:=hide bR2
  have HBB:=hide bB2
  have HNB:=hide hblk
  have HKN:=hide hkn
  have HK3:=hide k3
  have HGET:=hide hget
  have hpl:=hblk.lt
  have hxi:(x.val:Int)<(L.length:Int):=by omega
  clear hE hS hBw bT2 bR2 bB2 hblk hkn k3 bT bR bE bB bp hget hlpr
  gi_wp2_with fail
  gi_loopw [6,23] (fun en i wr=>OrdRel L nd (fun j=>es.getD j 0) x.val W en i wr) (fun _ i _=>nd.kids.length-(intOf i).toNat)
  case atStart=>exact ⟨0,(x.val:Int)+1,rfl,by go_num,by omega,by rw [List.drop_zero],by rw [List.drop_zero],Below.refl _ _⟩
  case round=>
   obtain ⟨k,z,rfl,rfl,hk,hkb,hkz,hbr⟩:=hrel
   gi_hideQ
   have hget:=HGET.1
   have HBR:=hide hbr
   have HTW:=hide (HTB.1.below hbr HTB.1.lt)
   have HNW:=hide (HNB.1.below hbr hpl)
   have HRW:=hide (HRB.1.below hbr HRB.1.lt)
   have HBBW:=hide (HBB.1.below hbr HBB.1.lt)
   have HEW:=hide (HE2.1.below hbr HE2.1.lt)
   have hbW0:w.heap.size≤W.heap.size:=HBW.1.size
   have hbW:b<wr.heap.size:=by have:=hbr.size;omega
   have HLW:=hide (HL.1.keep ((HBW.1.trans (hbr.mono hbW0)).block b hb))
   have HKB:=hide hkb
   have HKZ:=hide hkz
   clear hkb hkz hbr
   by_cases hlt:k<nd.kids.length
   ·have hki:(k:Int)<(nd.kids.length:Int):=by omega
    obtain ⟨y,hy⟩:∃ y,nd.kids[k]?=some y:=⟨_,List.getElem?_eq_getElem hlt⟩
    obtain ⟨qb,qo,rfl,hqb,hqc⟩:=kids_at HK3.1 (by omega)
    have d0:wr.cell? ⟨qb,qo+k,none⟩=some (.int .i64 y):=(((HBW.1.trans (HBR.1.mono hbW0))).cell (p:=⟨qb,qo+k,none⟩) hqb).trans (hqc k y hy)
    obtain ⟨hd1,hd2⟩:=kidsB_drop (L:=L) (nd:=nd) (e:=fun j=>es.getD j 0) hy z
    have HD1:=hide (hd1.symm.trans HKB.1)
    have HD2:=hide (hd2.symm.trans HKZ.1)
    clear hqc hy hd1 hd2 hqb
    by_cases hyz:y=z
    ·have e0:(y != z)=false:=by simp [hyz]
     have HYZ:=hide hyz
     clear hyz
     by_cases hhas:hasI L.length y=true
     ·obtain ⟨y2,hy2⟩:∃ y2:Nat,y=y2:=⟨y.toNat,by have:=(hasI_iff _ _).1 hhas;omega⟩
      have hyl:y2<L.length:=by have:=(hasI_iff _ _).1 hhas;omega
      have hyli:(y2:Int)<(L.length:Int):=by omega
      obtain ⟨nk,hnk⟩:∃ nk,L[y2]?=some nk:=⟨_,List.getElem?_eq_getElem hyl⟩
      have HNK:=hide hnk
      have HHAS:=hide hhas
      obtain ⟨qc,hqc⟩:∃ q,covB nd nk=q:=⟨_,rfl⟩
      have HCOV:=hide hqc
      have hce:=hide (show covAt L nd y.toNat=qc from by unfold covAt;rw [hy2,Int.toNat_natCast,hnk];exact hqc)
      clear hhas hnk hqc
      subst hy2
      cases qc with
      | true=>
       gi_wp2_with fail
       refine RegTail.wpIn_region_held (S:=fun wx=>Hd (Below wr.heap.size wr wx)) (by kernel_rfl) (by kernel_rfl) (show Hd (Below wr.heap.size wr _) from hide (Below.refl _ _).drew) (fun hS=>?_)
       refine tkH 0 (some 27) ?v0z1 rfl ?y0z1 hS ?r0z1
       case y0z1=>(intro w hSw;(try dsimp only at hSw);go_simp;try with_reducible rfl)
       try simp only [aP]
       refine tkH 1 (some 28) ?v1z2 rfl ?y1z2 hS ?r1z2
       case y1z2=>(intro w hSw;(try dsimp only at hSw);go_simp;try with_reducible rfl)
       try simp only [aP]
       refine tkH 2 (some 29) ?v2z3 rfl ?y2z3 hS ?r2z3
       case y2z3=>(intro w hSw;(try dsimp only at hSw);go_simp;try with_reducible rfl)
       try simp only [aP]
       refine tkH 3 (some 30) ?v3z4 rfl ?y3z4 hS ?r3z4
       case y3z4=>(intro w hSw;(try dsimp only at hSw);go_simp;try with_reducible rfl)
       try simp only [aP]
       refine tkH 4 (some 31) ?v4z5 rfl ?y4z5 hS ?r4z5
       case y4z5=>(intro w hSw;(try dsimp only at hSw);have h0:=(HTW.1.below hSw.1 HTW.1.lt).cell 0;have h1:=(HTW.1.below hSw.1 HTW.1.lt).cell 1;have h2:=(HTW.1.below hSw.1 HTW.1.lt).cell 2;go_simp;try with_reducible rfl)
       try simp only [aP]
       refine tkH 5 (some 32) ?v5z6 rfl ?y5z6 hS ?r5z6
       case y5z6=>(intro w hSw;(try dsimp only at hSw);go_simp;try with_reducible rfl)
       try simp only [aP]
       refine wpAnyH_ready (rs:=[6]) (by kernel_rfl) (by simp) ?_
       refine AllReadyH.cons (o:=⟨some 33,_,_,_,_,_⟩) rfl (fun K hK=>?_) AllReadyH.nil
       go_simp
       refine (has_any _ L.length cap g c _ _).mono ?_
       rintro e wqhA ⟨rfl,hb⟩
       rw [HHAS.1]
       have HhA:=hide (hS.1.trans (hb.mono hS.1.size))
       clear hb
       go_wp2_with fail
       refine hK.out _ _ HhA (fun hA=>?_)
       clear hK K
       try simp only [aP]
       refine tkH 7 (some 34) ?v7z7 rfl ?y7z7 hA ?r7z7
       case y7z7=>(intro w hSw;(try dsimp only at hSw);go_simp;try with_reducible rfl)
       try simp only [aP]
       refine tkH 8 (some 35) ?v8z8 rfl ?y8z8 hA ?r8z8
       case y8z8=>(intro w hSw;(try dsimp only at hSw);go_simp;try with_reducible rfl)
       try simp only [aP]
       refine tkH 9 (some 36) ?v9z9 rfl ?y9z9 hA ?r9z9
       case y9z9=>(intro w hSw;(try dsimp only at hSw);go_simp;try with_reducible rfl)
       try simp only [aP]
       refine tkH 10 (some 37) ?v10z10 rfl ?y10z10 hA ?r10z10
       case y10z10=>(intro w hSw;(try dsimp only at hSw);have h0:=(HNW.1.below hSw.1 HNW.1.lt).cell 0;have h1:=(HNW.1.below hSw.1 HNW.1.lt).cell 1;have h2:=(HNW.1.below hSw.1 HNW.1.lt).cell 2;have h3:=(HNW.1.below hSw.1 HNW.1.lt).cell 3;have h4:=(HNW.1.below hSw.1 HNW.1.lt).cell 4;have h5:=(HNW.1.below hSw.1 HNW.1.lt).cell 5;have h6:=(HNW.1.below hSw.1 HNW.1.lt).cell 6;have h7:=(HNW.1.below hSw.1 HNW.1.lt).cell 7;have h8:=(HNW.1.below hSw.1 HNW.1.lt).cell 8;have h9:=(HNW.1.below hSw.1 HNW.1.lt).cell 9;go_simp;try with_reducible rfl)
       try simp only [aP]
       refine tkH 11 (some 38) ?v11z11 rfl ?y11z11 hA ?r11z11
       case y11z11=>(intro w hSw;(try dsimp only at hSw);go_simp;try with_reducible rfl)
       try simp only [aP]
       refine tkH 12 (some 39) ?v12z12 rfl ?y12z12 hA ?r12z12
       case y12z12=>(intro w hSw;(try dsimp only at hSw);have h0:=(HTW.1.below hSw.1 HTW.1.lt).cell 0;go_simp;try with_reducible rfl)
       try simp only [aP]
       refine tkH 13 (some 40) ?v13z13 rfl ?y13z13 hA ?r13z13
       case y13z13=>(intro w hSw;(try dsimp only at hSw);go_simp;try with_reducible rfl)
       try simp only [aP]
       refine tkH 14 (some 41) ?v14z14 rfl ?y14z14 hA ?r14z14
       case y14z14=>(intro w hSw;(try dsimp only at hSw);go_simp;try with_reducible rfl)
       try simp only [aP]
       refine tkH 15 (some 42) ?v15z15 rfl ?y15z15 hA ?r15z15
       case y15z15=>(intro w hSw;(try dsimp only at hSw);obtain ⟨h0,h1,h2,h3,h4,h5,h6,h7,h8,h9⟩:=(HLW.1.keep (hSw.1.block b hbW)) y2 nk HNK.1;go_simp;try with_reducible rfl)
       try simp only [aP]
       refine wpAnyH_ready (rs:=[16]) (by kernel_rfl) (by simp) ?_
       refine AllReadyH.cons (o:=⟨some 43,_,_,_,_,_⟩) rfl (fun K hK=>?_) AllReadyH.nil
       go_simp
       refine (covers_any nd nk _ _ _ _ _).mono ?_
       rintro e wqhC ⟨rfl,hb⟩
       rw [HCOV.1]
       have HhC:=hide (hA.1.trans (hb.mono hA.1.size))
       clear hb
       go_wp2_with fail
       refine hK.out _ _ HhC (fun hC=>?_)
       clear hK K
       try simp only [aP]
       refine tkH 17 (some 44) ?v17z16 rfl ?y17z16 hC ?r17z16
       case y17z16=>(intro w hSw;(try dsimp only at hSw);go_simp;try with_reducible rfl)
       try simp only [aP]
       refine tkH 18 (some 45) ?v18z17 rfl ?y18z17 hC ?r18z17
       case y18z17=>(intro w hSw;(try dsimp only at hSw);go_simp;try with_reducible rfl)
       try simp only [aP]
       refine wpAnyH_done (by kernel_rfl) ?_ _
       refine RegTail.only_norm ?_
       have hcB:=(HBBW.1.below hC.1 HBBW.1.lt).cell 0
       have hcE:=(HEW.1.below hC.1 HEW.1.lt).cell y2
       have hev:(ints es)[y2]?=some (.int .i64 (es.getD y2 0)):=by
        unfold ints
        rw [List.getElem?_toArray,List.getElem?_map,List.getElem?_eq_getElem (by omega)]
        simp [List.getD,List.getElem?_eq_getElem (show y2<es.length by omega)]
       rw [hev] at hcE
       have hR:OrdRel L nd (fun j=>es.getD j 0) x.val W (.int .i64 (es.getD y2 0)) (.int .i64 ((k:Int)+1)) wqhC:=by
        refine ⟨k+1,es.getD y2 0,by go_num,rfl,by omega,?_,?_,HBR.1.trans (hC.1.mono HBR.1.size)⟩
        ·have h1:=HD1.1
         rw [hce.1,HHAS.1,decide_eq_true HYZ.1,Bool.true_and,Bool.true_and,Bool.true_and,Int.toNat_natCast] at h1
         exact h1
        ·have h2:=HD2.1
         rw [Int.toNat_natCast] at h2
         exact h2
       have HRR:=hide hR
       clear hev hR
       generalize es.getD y2 0=ez at *
       gi_wp2_with fail
       have hR:=HRR.1
       first|go_roundw|refine ⟨?rel,?measure⟩
       case rel=>exact hR
       case measure=>simp [intOf];omega
      | false=>
       have HBAD:=hide (show kidsB L nd (fun j=>es.getD j 0) nd.kids ((x.val:Int)+1)=false from by
        rw [← HD1.1,hce.1];simp)
       gi_wp2_with fail
       refine RegTail.wpIn_region_held (S:=fun wx=>Hd (Below wr.heap.size wr wx)) (by kernel_rfl) (by kernel_rfl) (show Hd (Below wr.heap.size wr _) from hide (Below.refl _ _).drew) (fun hS=>?_)
       refine tkH 0 (some 27) ?v0z18 rfl ?y0z18 hS ?r0z18
       case y0z18=>(intro w hSw;(try dsimp only at hSw);go_simp;try with_reducible rfl)
       try simp only [aP]
       refine tkH 1 (some 28) ?v1z19 rfl ?y1z19 hS ?r1z19
       case y1z19=>(intro w hSw;(try dsimp only at hSw);go_simp;try with_reducible rfl)
       try simp only [aP]
       refine tkH 2 (some 29) ?v2z20 rfl ?y2z20 hS ?r2z20
       case y2z20=>(intro w hSw;(try dsimp only at hSw);go_simp;try with_reducible rfl)
       try simp only [aP]
       refine tkH 3 (some 30) ?v3z21 rfl ?y3z21 hS ?r3z21
       case y3z21=>(intro w hSw;(try dsimp only at hSw);go_simp;try with_reducible rfl)
       try simp only [aP]
       refine tkH 4 (some 31) ?v4z22 rfl ?y4z22 hS ?r4z22
       case y4z22=>(intro w hSw;(try dsimp only at hSw);have h0:=(HTW.1.below hSw.1 HTW.1.lt).cell 0;have h1:=(HTW.1.below hSw.1 HTW.1.lt).cell 1;have h2:=(HTW.1.below hSw.1 HTW.1.lt).cell 2;go_simp;try with_reducible rfl)
       try simp only [aP]
       refine tkH 5 (some 32) ?v5z23 rfl ?y5z23 hS ?r5z23
       case y5z23=>(intro w hSw;(try dsimp only at hSw);go_simp;try with_reducible rfl)
       try simp only [aP]
       refine wpAnyH_ready (rs:=[6]) (by kernel_rfl) (by simp) ?_
       refine AllReadyH.cons (o:=⟨some 33,_,_,_,_,_⟩) rfl (fun K hK=>?_) AllReadyH.nil
       go_simp
       refine (has_any _ L.length cap g c _ _).mono ?_
       rintro e wqhA ⟨rfl,hb⟩
       rw [HHAS.1]
       have HhA:=hide (hS.1.trans (hb.mono hS.1.size))
       clear hb
       go_wp2_with fail
       refine hK.out _ _ HhA (fun hA=>?_)
       clear hK K
       try simp only [aP]
       refine tkH 7 (some 34) ?v7z24 rfl ?y7z24 hA ?r7z24
       case y7z24=>(intro w hSw;(try dsimp only at hSw);go_simp;try with_reducible rfl)
       try simp only [aP]
       refine tkH 8 (some 35) ?v8z25 rfl ?y8z25 hA ?r8z25
       case y8z25=>(intro w hSw;(try dsimp only at hSw);go_simp;try with_reducible rfl)
       try simp only [aP]
       refine tkH 9 (some 36) ?v9z26 rfl ?y9z26 hA ?r9z26
       case y9z26=>(intro w hSw;(try dsimp only at hSw);go_simp;try with_reducible rfl)
       try simp only [aP]
       refine tkH 10 (some 37) ?v10z27 rfl ?y10z27 hA ?r10z27
       case y10z27=>(intro w hSw;(try dsimp only at hSw);have h0:=(HNW.1.below hSw.1 HNW.1.lt).cell 0;have h1:=(HNW.1.below hSw.1 HNW.1.lt).cell 1;have h2:=(HNW.1.below hSw.1 HNW.1.lt).cell 2;have h3:=(HNW.1.below hSw.1 HNW.1.lt).cell 3;have h4:=(HNW.1.below hSw.1 HNW.1.lt).cell 4;have h5:=(HNW.1.below hSw.1 HNW.1.lt).cell 5;have h6:=(HNW.1.below hSw.1 HNW.1.lt).cell 6;have h7:=(HNW.1.below hSw.1 HNW.1.lt).cell 7;have h8:=(HNW.1.below hSw.1 HNW.1.lt).cell 8;have h9:=(HNW.1.below hSw.1 HNW.1.lt).cell 9;go_simp;try with_reducible rfl)
       try simp only [aP]
       refine tkH 11 (some 38) ?v11z28 rfl ?y11z28 hA ?r11z28
       case y11z28=>(intro w hSw;(try dsimp only at hSw);go_simp;try with_reducible rfl)
       try simp only [aP]
       refine tkH 12 (some 39) ?v12z29 rfl ?y12z29 hA ?r12z29
       case y12z29=>(intro w hSw;(try dsimp only at hSw);have h0:=(HTW.1.below hSw.1 HTW.1.lt).cell 0;go_simp;try with_reducible rfl)
       try simp only [aP]
       refine tkH 13 (some 40) ?v13z30 rfl ?y13z30 hA ?r13z30
       case y13z30=>(intro w hSw;(try dsimp only at hSw);go_simp;try with_reducible rfl)
       try simp only [aP]
       refine tkH 14 (some 41) ?v14z31 rfl ?y14z31 hA ?r14z31
       case y14z31=>(intro w hSw;(try dsimp only at hSw);go_simp;try with_reducible rfl)
       try simp only [aP]
       refine tkH 15 (some 42) ?v15z32 rfl ?y15z32 hA ?r15z32
       case y15z32=>(intro w hSw;(try dsimp only at hSw);obtain ⟨h0,h1,h2,h3,h4,h5,h6,h7,h8,h9⟩:=(HLW.1.keep (hSw.1.block b hbW)) y2 nk HNK.1;go_simp;try with_reducible rfl)
       try simp only [aP]
       refine wpAnyH_ready (rs:=[16]) (by kernel_rfl) (by simp) ?_
       refine AllReadyH.cons (o:=⟨some 43,_,_,_,_,_⟩) rfl (fun K hK=>?_) AllReadyH.nil
       go_simp
       refine (covers_any nd nk _ _ _ _ _).mono ?_
       rintro e wqhC ⟨rfl,hb⟩
       rw [HCOV.1]
       have HhC:=hide (hA.1.trans (hb.mono hA.1.size))
       clear hb
       go_wp2_with fail
       refine hK.out _ _ HhC (fun hC=>?_)
       clear hK K
       try simp only [aP]
       refine tkH 17 (some 44) ?v17z33 rfl ?y17z33 hC ?r17z33
       case y17z33=>(intro w hSw;(try dsimp only at hSw);go_simp;try with_reducible rfl)
       try simp only [aP]
       refine tkH 18 (some 45) ?v18z34 rfl ?y18z34 hC ?r18z34
       case y18z34=>(intro w hSw;(try dsimp only at hSw);go_simp;try with_reducible rfl)
       try simp only [aP]
       refine wpAnyH_done (by kernel_rfl) ?_ _
       refine RegTail.only_norm ?_
       have HBX:=hide (HBR.1.trans (hC.1.mono HBR.1.size))
       have bRx:=hide (HRW.1.below hC.1 HRW.1.lt)
       have hcx:=bRx.1.cell 0
       have hfx:=bRx.1.frozen 0
       gi_wp2_with fail
       refine ⟨⟨?_,?_⟩,⟨bRx.1.set_ 0 (.bool false),?_⟩,rfl,fun hp=>known_bad HKN.1 hget HBAD.1 hp⟩
       ·exact Nat.le_trans HBX.1.size (by simp [World.setCell])
       ·intro k o hk ho hc
        exact (KeepsOthers.setCell _ _ _).same k o ((HBX.1.block k (Array.getElem?_eq_some_iff.1 ho).1).trans ho) hc
       ·exact (HBW.1.trans (HBX.1.mono HBW.1.size)).setCell (p:=⟨w.heap.size+1,0,none⟩) (Nat.le_succ _) _
     ·have hhf:hasI L.length y=false:=by simpa using hhas
      have HHAS:=hide hhf
      have HBAD:=hide (show kidsB L nd (fun j=>es.getD j 0) nd.kids ((x.val:Int)+1)=false from by
       rw [← HD1.1,hhf];simp)
      clear hhas hhf
      gi_wp2_with fail
      refine RegTail.wpIn_region_held (S:=fun wx=>Hd (Below wr.heap.size wr wx)) (by kernel_rfl) (by kernel_rfl) (show Hd (Below wr.heap.size wr _) from hide (Below.refl _ _).drew) (fun hS=>?_)
      refine tkH 0 (some 27) ?v0z35 rfl ?y0z35 hS ?r0z35
      case y0z35=>(intro w hSw;(try dsimp only at hSw);go_simp;try with_reducible rfl)
      try simp only [aP]
      refine tkH 1 (some 28) ?v1z36 rfl ?y1z36 hS ?r1z36
      case y1z36=>(intro w hSw;(try dsimp only at hSw);go_simp;try with_reducible rfl)
      try simp only [aP]
      refine tkH 2 (some 29) ?v2z37 rfl ?y2z37 hS ?r2z37
      case y2z37=>(intro w hSw;(try dsimp only at hSw);go_simp;try with_reducible rfl)
      try simp only [aP]
      refine tkH 3 (some 30) ?v3z38 rfl ?y3z38 hS ?r3z38
      case y3z38=>(intro w hSw;(try dsimp only at hSw);go_simp;try with_reducible rfl)
      try simp only [aP]
      refine tkH 4 (some 31) ?v4z39 rfl ?y4z39 hS ?r4z39
      case y4z39=>(intro w hSw;(try dsimp only at hSw);have h0:=(HTW.1.below hSw.1 HTW.1.lt).cell 0;have h1:=(HTW.1.below hSw.1 HTW.1.lt).cell 1;have h2:=(HTW.1.below hSw.1 HTW.1.lt).cell 2;go_simp;try with_reducible rfl)
      try simp only [aP]
      refine tkH 5 (some 32) ?v5z40 rfl ?y5z40 hS ?r5z40
      case y5z40=>(intro w hSw;(try dsimp only at hSw);go_simp;try with_reducible rfl)
      try simp only [aP]
      refine wpAnyH_ready (rs:=[6]) (by kernel_rfl) (by simp) ?_
      refine AllReadyH.cons (o:=⟨some 33,_,_,_,_,_⟩) rfl (fun K hK=>?_) AllReadyH.nil
      go_simp
      refine (has_any _ L.length cap g c _ _).mono ?_
      rintro e wqhA ⟨rfl,hb⟩
      rw [HHAS.1]
      have HhA:=hide (hS.1.trans (hb.mono hS.1.size))
      clear hb
      go_wp2_with fail
      refine hK.out _ _ HhA (fun hA=>?_)
      clear hK K
      try simp only [aP]
      refine tkH 7 (some 34) ?v7z41 rfl ?y7z41 hA ?r7z41
      case y7z41=>(intro w hSw;(try dsimp only at hSw);go_simp;try with_reducible rfl)
      try simp only [aP]
      refine tkH 8 (some 35) ?v8z42 rfl ?y8z42 hA ?r8z42
      case y8z42=>(intro w hSw;(try dsimp only at hSw);go_simp;try with_reducible rfl)
      try simp only [aP]
      refine tkH 9 (some 36) ?v9z43 rfl ?y9z43 hA ?r9z43
      case y9z43=>(intro w hSw;(try dsimp only at hSw);go_simp;try with_reducible rfl)
      try simp only [aP]
      refine wpAnyH_take (i:=10) (oi:=⟨some 37,_,_,_,_,_⟩) (v:=undef) rfl (by kernel_rfl) (by kernel_rfl) (by kernel_rfl) (fun _ _ _ h=>h) (Or.inr ⟨by rfl,rfl⟩) hA ?r10z44
      case' r10z44=>skip
      try simp only [aP]
      refine wpAnyH_take (i:=11) (oi:=⟨some 38,_,_,_,_,_⟩) (v:=undef) rfl (by kernel_rfl) (by kernel_rfl) (by kernel_rfl) (fun _ _ _ h=>h) (Or.inr ⟨by rfl,rfl⟩) hA ?r11z45
      case' r11z45=>skip
      try simp only [aP]
      refine wpAnyH_take (i:=12) (oi:=⟨some 39,_,_,_,_,_⟩) (v:=undef) rfl (by kernel_rfl) (by kernel_rfl) (by kernel_rfl) (fun _ _ _ h=>h) (Or.inr ⟨by rfl,rfl⟩) hA ?r12z46
      case' r12z46=>skip
      try simp only [aP]
      refine wpAnyH_take (i:=13) (oi:=⟨some 40,_,_,_,_,_⟩) (v:=undef) rfl (by kernel_rfl) (by kernel_rfl) (by kernel_rfl) (fun _ _ _ h=>h) (Or.inr ⟨by rfl,rfl⟩) hA ?r13z47
      case' r13z47=>skip
      try simp only [aP]
      refine wpAnyH_take (i:=14) (oi:=⟨some 41,_,_,_,_,_⟩) (v:=undef) rfl (by kernel_rfl) (by kernel_rfl) (by kernel_rfl) (fun _ _ _ h=>h) (Or.inr ⟨by rfl,rfl⟩) hA ?r14z48
      case' r14z48=>skip
      try simp only [aP]
      refine wpAnyH_take (i:=15) (oi:=⟨some 42,_,_,_,_,_⟩) (v:=undef) rfl (by kernel_rfl) (by kernel_rfl) (by kernel_rfl) (fun _ _ _ h=>h) (Or.inr ⟨by rfl,rfl⟩) hA ?r15z49
      case' r15z49=>skip
      try simp only [aP]
      refine wpAnyH_take (i:=16) (oi:=⟨some 43,_,_,_,_,_⟩) (v:=undef) rfl (by kernel_rfl) (by kernel_rfl) (by kernel_rfl) (fun _ _ _ h=>h) (Or.inr ⟨by rfl,rfl⟩) hA ?r16z50
      case' r16z50=>skip
      try simp only [aP]
      refine wpAnyH_take (i:=17) (oi:=⟨some 44,_,_,_,_,_⟩) (v:=undef) rfl (by kernel_rfl) (by kernel_rfl) (by kernel_rfl) (fun _ _ _ h=>h) (Or.inr ⟨by rfl,rfl⟩) hA ?r17z51
      case' r17z51=>skip
      try simp only [aP]
      refine tkH 18 (some 45) ?v18z52 rfl ?y18z52 hA ?r18z52
      case y18z52=>(intro w hSw;(try dsimp only at hSw);go_simp;try with_reducible rfl)
      try simp only [aP]
      refine wpAnyH_done (by kernel_rfl) ?_ _
      refine RegTail.only_norm ?_
      have HBX:=hide (HBR.1.trans (hA.1.mono HBR.1.size))
      have bRx:=hide (HRW.1.below hA.1 HRW.1.lt)
      have hcx:=bRx.1.cell 0
      have hfx:=bRx.1.frozen 0
      gi_wp2_with fail
      refine ⟨⟨?_,?_⟩,⟨bRx.1.set_ 0 (.bool false),?_⟩,rfl,fun hp=>known_bad HKN.1 hget HBAD.1 hp⟩
      ·exact Nat.le_trans HBX.1.size (by simp [World.setCell])
      ·intro k o hk ho hc
       exact (KeepsOthers.setCell _ _ _).same k o ((HBX.1.block k (Array.getElem?_eq_some_iff.1 ho).1).trans ho) hc
      ·exact (HBW.1.trans (HBX.1.mono HBW.1.size)).setCell (p:=⟨w.heap.size+1,0,none⟩) (Nat.le_succ _) _
    ·have e0:(y != z)=true:=by simp [hyz]
     have HBAD:=hide (show kidsB L nd (fun j=>es.getD j 0) nd.kids ((x.val:Int)+1)=false from by
      rw [← HD1.1,decide_eq_false hyz];simp)
     clear hyz
     gi_wp2_with fail
     refine RegTail.wpIn_region_held (S:=fun wx=>Hd (Below wr.heap.size wr wx)) (by kernel_rfl) (by kernel_rfl) (show Hd (Below wr.heap.size wr _) from hide (Below.refl _ _).drew) (fun hS=>?_)
     refine tkH 0 (some 27) ?v0z53 rfl ?y0z53 hS ?r0z53
     case y0z53=>(intro w hSw;(try dsimp only at hSw);go_simp;try with_reducible rfl)
     try simp only [aP]
     refine tkH 1 (some 28) ?v1z54 rfl ?y1z54 hS ?r1z54
     case y1z54=>(intro w hSw;(try dsimp only at hSw);go_simp;try with_reducible rfl)
     try simp only [aP]
     refine tkH 2 (some 29) ?v2z55 rfl ?y2z55 hS ?r2z55
     case y2z55=>(intro w hSw;(try dsimp only at hSw);go_simp;try with_reducible rfl)
     try simp only [aP]
     refine tkH 3 (some 30) ?v3z56 rfl ?y3z56 hS ?r3z56
     case y3z56=>(intro w hSw;(try dsimp only at hSw);go_simp;try with_reducible rfl)
     try simp only [aP]
     refine wpAnyH_take (i:=4) (oi:=⟨some 31,_,_,_,_,_⟩) (v:=undef) rfl (by kernel_rfl) (by kernel_rfl) (by kernel_rfl) (fun _ _ _ h=>h) (Or.inr ⟨by rfl,rfl⟩) hS ?r4z57
     case' r4z57=>skip
     try simp only [aP]
     refine wpAnyH_take (i:=5) (oi:=⟨some 32,_,_,_,_,_⟩) (v:=undef) rfl (by kernel_rfl) (by kernel_rfl) (by kernel_rfl) (fun _ _ _ h=>h) (Or.inr ⟨by rfl,rfl⟩) hS ?r5z58
     case' r5z58=>skip
     try simp only [aP]
     refine wpAnyH_take (i:=6) (oi:=⟨some 33,_,_,_,_,_⟩) (v:=undef) rfl (by kernel_rfl) (by kernel_rfl) (by kernel_rfl) (fun _ _ _ h=>h) (Or.inr ⟨by rfl,rfl⟩) hS ?r6z59
     case' r6z59=>skip
     try simp only [aP]
     refine wpAnyH_take (i:=7) (oi:=⟨some 34,_,_,_,_,_⟩) (v:=undef) rfl (by kernel_rfl) (by kernel_rfl) (by kernel_rfl) (fun _ _ _ h=>h) (Or.inr ⟨by rfl,rfl⟩) hS ?r7z60
     case' r7z60=>skip
     try simp only [aP]
     refine tkH 8 (some 35) ?v8z61 rfl ?y8z61 hS ?r8z61
     case y8z61=>(intro w hSw;(try dsimp only at hSw);go_simp;try with_reducible rfl)
     try simp only [aP]
     refine tkH 9 (some 36) ?v9z62 rfl ?y9z62 hS ?r9z62
     case y9z62=>(intro w hSw;(try dsimp only at hSw);go_simp;try with_reducible rfl)
     try simp only [aP]
     refine wpAnyH_take (i:=10) (oi:=⟨some 37,_,_,_,_,_⟩) (v:=undef) rfl (by kernel_rfl) (by kernel_rfl) (by kernel_rfl) (fun _ _ _ h=>h) (Or.inr ⟨by rfl,rfl⟩) hS ?r10z63
     case' r10z63=>skip
     try simp only [aP]
     refine wpAnyH_take (i:=11) (oi:=⟨some 38,_,_,_,_,_⟩) (v:=undef) rfl (by kernel_rfl) (by kernel_rfl) (by kernel_rfl) (fun _ _ _ h=>h) (Or.inr ⟨by rfl,rfl⟩) hS ?r11z64
     case' r11z64=>skip
     try simp only [aP]
     refine wpAnyH_take (i:=12) (oi:=⟨some 39,_,_,_,_,_⟩) (v:=undef) rfl (by kernel_rfl) (by kernel_rfl) (by kernel_rfl) (fun _ _ _ h=>h) (Or.inr ⟨by rfl,rfl⟩) hS ?r12z65
     case' r12z65=>skip
     try simp only [aP]
     refine wpAnyH_take (i:=13) (oi:=⟨some 40,_,_,_,_,_⟩) (v:=undef) rfl (by kernel_rfl) (by kernel_rfl) (by kernel_rfl) (fun _ _ _ h=>h) (Or.inr ⟨by rfl,rfl⟩) hS ?r13z66
     case' r13z66=>skip
     try simp only [aP]
     refine wpAnyH_take (i:=14) (oi:=⟨some 41,_,_,_,_,_⟩) (v:=undef) rfl (by kernel_rfl) (by kernel_rfl) (by kernel_rfl) (fun _ _ _ h=>h) (Or.inr ⟨by rfl,rfl⟩) hS ?r14z67
     case' r14z67=>skip
     try simp only [aP]
     refine wpAnyH_take (i:=15) (oi:=⟨some 42,_,_,_,_,_⟩) (v:=undef) rfl (by kernel_rfl) (by kernel_rfl) (by kernel_rfl) (fun _ _ _ h=>h) (Or.inr ⟨by rfl,rfl⟩) hS ?r15z68
     case' r15z68=>skip
     try simp only [aP]
     refine wpAnyH_take (i:=16) (oi:=⟨some 43,_,_,_,_,_⟩) (v:=undef) rfl (by kernel_rfl) (by kernel_rfl) (by kernel_rfl) (fun _ _ _ h=>h) (Or.inr ⟨by rfl,rfl⟩) hS ?r16z69
     case' r16z69=>skip
     try simp only [aP]
     refine wpAnyH_take (i:=17) (oi:=⟨some 44,_,_,_,_,_⟩) (v:=undef) rfl (by kernel_rfl) (by kernel_rfl) (by kernel_rfl) (fun _ _ _ h=>h) (Or.inr ⟨by rfl,rfl⟩) hS ?r17z70
     case' r17z70=>skip
     try simp only [aP]
     refine tkH 18 (some 45) ?v18z71 rfl ?y18z71 hS ?r18z71
     case y18z71=>(intro w hSw;(try dsimp only at hSw);go_simp;try with_reducible rfl)
     try simp only [aP]
     refine wpAnyH_done (by kernel_rfl) ?_ _
     refine RegTail.only_norm ?_
     have HBX:=hide (HBR.1.trans (hS.1.mono HBR.1.size))
     have bRx:=hide (HRW.1.below hS.1 HRW.1.lt)
     have hcx:=bRx.1.cell 0
     have hfx:=bRx.1.frozen 0
     gi_wp2_with fail
     refine ⟨⟨?_,?_⟩,⟨bRx.1.set_ 0 (.bool false),?_⟩,rfl,fun hp=>known_bad HKN.1 hget HBAD.1 hp⟩
     ·exact Nat.le_trans HBX.1.size (by simp [World.setCell])
     ·intro k o hk ho hc
      exact (KeepsOthers.setCell _ _ _).same k o ((HBX.1.block k (Array.getElem?_eq_some_iff.1 ho).1).trans ho) hc
     ·exact (HBW.1.trans (HBX.1.mono HBW.1.size)).setCell (p:=⟨w.heap.size+1,0,none⟩) (Nat.le_succ _) _
   ·have hki:(nd.kids.length:Int)≤(k:Int):=by omega
    have hfb:=HKB.1
    have hfz:=HKZ.1
    rw [List.drop_of_length_le (by omega)] at hfb hfz
    have hfb:kidsB L nd (fun j=>es.getD j 0) nd.kids ((x.val:Int)+1)=true:=hfb.symm
    have hfz:kidsZ (fun j=>es.getD j 0) nd.kids ((x.val:Int)+1)=z:=hfz.symm
    have hsn:=known_snoc HKN.1 hl hget hfb
    rw [hfz] at hsn
    have HSN:=hide hsn
    have hcB:=HBBW.1.cell 0
    have hcE:=HEW.1.cell x.val
    have hfE:=HEW.1.frozen x.val
    have hev:(ints es)[x.val]?=some (.int .i64 (es.getD x.val 0)):=by
     unfold ints
     rw [List.getElem?_toArray,List.getElem?_map,List.getElem?_eq_getElem (by omega)]
     simp [List.getD,List.getElem?_eq_getElem (show x.val<es.length by omega)]
    rw [hev] at hcE
    clear hfb hfz hsn hev hlt
    gi_wp2_with fail
    have hbr:=HBR.1
    refine ⟨⟨?_,?_⟩,⟨fun q hq=>?_,?_⟩,⟨es.set x.val z,⟨?_,fun q hq=>?_,?_⟩,by simpa using hl,HSN.1⟩,?_⟩
    ·exact Nat.le_trans hbr.size (by simp [World.setCell])
    ·intro q o hq ho hc
     exact (KeepsOthers.setCell _ _ _).same q o ((hbr.block q (Array.getElem?_eq_some_iff.1 ho).1).trans ho) hc
    ·rw [Below.heap_setCell _ _ _ q (by rcases hq with h|h<;>(simp;omega))]
     exact hbr.block q (by rcases hq with h|h<;>omega)
    ·exact Nat.le_trans hbr.size (by simp [World.setCell])
    ·have:=HEW.1.set_ x.val (.int .i64 z)
     unfold ints at this ⊢
     rw [List.map_set]
     simpa using this
    ·rw [Below.heap_setCell _ _ _ q (by have:=hq.2;simp;omega),hbr.block q (by have:=hq.1;omega)]
     exact HS2.1 q hq
    ·exact Nat.le_trans hsz (Nat.le_trans hbr.size (by simp [World.setCell]))
    ·exact (HBW.1.trans (hbr.mono hbW0)).setCell (p:=⟨w.heap.size+2,_,none⟩) (by simp) _
 case done=>
  rintro D ys W hD rfl ⟨⟨es,⟨hE,hS,hsz⟩,hl,hkn⟩,hBw⟩ hK
  have bT2:Blk W w.heap.size 27 #[.slice (some ⟨b,off,none⟩) L.length cap,.int .i64 g,c]:=(hS _ ⟨by omega,by omega⟩).trans bT
  have bR2:Blk W (w.heap.size+1) 4 #[.bool false]:=(hS _ ⟨by omega,by omega⟩).trans bR
  have bB2:Blk W (w.heap.size+3) 32 #[.slice (some ⟨w.heap.size+1+1,0,none⟩) L.length L.length]:=(hS _ ⟨by omega,by omega⟩).trans bB
  obtain ⟨e0,he0⟩:∃ e0,es.getD 0 0=e0:=⟨_,rfl⟩
  have hka:=known_all hpos hkn
  rw [he0] at hka
  have hev:(ints es)[0]?=some (.int .i64 e0):=by
   unfold ints
   rw [List.getElem?_toArray,List.getElem?_map,List.getElem?_eq_getElem (by omega),← he0]
   simp [List.getD,List.getElem?_eq_getElem (show 0<es.length by omega)]
  obtain ⟨q,hq⟩:∃ q,(e0==(L.length:Int))=q:=⟨_,rfl⟩
  have HR:=hide (show ordB L=q from by rw [hka,← hq];by_cases h:e0=(L.length:Int)<;>simp [h])
  have HKx:=hide hK
  have HRx:=hide bR2
  have hBx:=hBw
  have hr2:=bR2.cell 0
  have hf2:=bR2.frozen 0
  have t0:=bT2.cell 0
  have f0:=bB2.cell 0
  have g0:=hE.cell 0
  rw [hev] at g0
  have HD:=hide hD
  clear hD hK hka hev hE hS hkn hBw bT2 bR2 bB2 bT bR bE bB bp he0
  have hposi:(0:Int)<(L.length:Int):=by omega
  gi_wp2_with fail
  refine RegTail.wpIn_region_still_tail 7 (by kernel_rfl) (by kernel_rfl) ?_
  simp only [List.take_succ_cons,List.take_zero,List.drop_succ_cons,List.drop_zero]
  have hr3:({ W with drawn:=W.drawn+1 }:World).cell? ⟨w.heap.size+1,0,none⟩=some (.bool false):=hr2
  have hf3:({ W with drawn:=W.drawn+1 }:World).frozen? ⟨w.heap.size+1,0,none⟩=false:=hf2
  have t3:({ W with drawn:=W.drawn+1 }:World).cell? ⟨w.heap.size,0,none⟩=some (.slice (some ⟨b,off,none⟩) L.length cap):=t0
  have f3:({ W with drawn:=W.drawn+1 }:World).cell? ⟨w.heap.size+3,0,none⟩=some (.slice (some ⟨w.heap.size+1+1,0,none⟩) L.length L.length):=f0
  have g3:({ W with drawn:=W.drawn+1 }:World).cell? ⟨w.heap.size+2,0,none⟩=some (.int .i64 e0):=g0
  have hB5':Below w.heap.size w (({ W with drawn:=W.drawn+1 }:World).setCell ⟨w.heap.size+1,0,none⟩ (.bool q)):=(hBx.drew).setCell (p:=⟨w.heap.size+1,0,none⟩) (Nat.le_succ _) _
  have hKx:({ W with drawn:=W.drawn+1 }:World).heap[D]?=some (.deferred (some [])):=HKx.1
  have hR3:Blk ({ W with drawn:=W.drawn+1 }:World) (w.heap.size+1) 4 #[.bool false]:=HRx.1
  generalize ({ W with drawn:=W.drawn+1 }:World)=wd at *
  have hK':=(KeepsOthers.setCell wd ⟨w.heap.size+1,0,none⟩ (.bool q)).same D _ hKx rfl
  have hc5:=cell_kept (World.cell?_setCell_same' wd ⟨w.heap.size+1,0,none⟩ (.bool q) (by rw [hr3];rfl)) (grownBy_putObj' _ D (.deferred none)) (fun r e=>by cases e;exact ⟨_,hK',rfl⟩)
  have HB6:=hide hB5'
  have HK':=hide hK'
  have HC5:=hide hc5
  clear hB5' hKx hR3 hK' hc5 hBx
  repeat still_step
  refine wpStill_nil ?_
  gi_wp2_with fail
  refine ⟨by simp,.inl ⟨_,_,rfl,run_takeDeferred HK'.1,?_⟩⟩
  have hc5:=HC5.1
  refine ⟨.bool q,?_,by rw [HR.1],HB6.1.trans (belowK_b (w:=w) (Nat.le_refl _) _ D _ _ (by have:=HD.1;omega) HK'.1 rfl rfl)⟩
  simp [results,Tryz.f21,go_sem,hc5]
 case stop=>
  rintro D cc pre W hD hpre ⟨⟨bR2,hB2⟩,rfl,hno⟩ hK
  have hc5:=cell_kept (bR2.cell 0) (grownBy_putObj' W D (.deferred none)) (fun r e=>by cases e;exact ⟨_,hK,rfl⟩)
  have HD:=hide hD
  have HB4:=hide hB2
  have HK':=hide hK
  have HC5:=hide hc5
  have HNO:=hide (hno hpre)
  clear hD hB2 hc5 hK hno bR2
  gi_wp2
  refine ⟨by simp,.inl ⟨_,_,rfl,run_takeDeferred HK'.1,?_⟩⟩
  have hc5:=HC5.1
  refine ⟨.bool false,?_,by rw [HNO.1],HB4.1.trans (belowK_b (w:=w) (Nat.le_refl _) _ D _ _ (by have:=HD.1;omega) HK'.1 rfl rfl)⟩
  simp [results,Tryz.f21,go_sem,hc5]
end
section
open Go.RowKit Mem Rs
attribute [local go_sem] run_not_true run_not_false
def rightT (t:Tr):Bool:=decide (0<t.nodes.length)&&(t.nodes.all nodeB&&(ordB t.nodes&&namedB t))
def slAt (w:World) (p:Addr):Sl:=match w.cell? p with
 | some (.slice a n c)=>⟨a,n,c⟩
 | _=>⟨none,0,0⟩
theorem slAt_eq {w:World} {p:Addr} {a:Option Addr} {n c:Nat} (h:w.cell? p=some (.slice a n c)):slAt w p=⟨a,n,c⟩:=by unfold slAt;rw [h]
theorem ordered_any (t:Tr) (v:Value) (B:Nat) (w:World) (hB:B≤w.heap.size) (hpos:0<t.nodes.length) (hlen:t.nodes.length≤100000) (hT:TreeV w B t v) :
  Calls Tryz.prog 21 #[v] w fun e w'=>e=.returned (.bool (ordB t.nodes))∧Below w.heap.size w w':=by
 obtain ⟨av,cv,rfl,⟨A,cap,rfl,hc1,hc2,hn⟩,hns⟩:=hT
 obtain ⟨b,off,rfl,hbb,hcs⟩:=hn hpos
 refine ordered_in t.nodes hpos hlen b off cap hc1 hc2 t.groups cv (fun k=>slAt w ⟨b,off+k*10+8,none⟩) (fun k=>slAt w ⟨b,off+k*10+9,none⟩) w (by omega) (fun k nd hk=>?_) (fun k nd hk=>?_)
 ·obtain ⟨h0,h1,h2,h3,h4,h5,h6,h7,⟨v8,h8,S,cs,rfl,hs1,hs2,hsa⟩,v9,h9,K,ck,rfl,hk1,hk2,hka9⟩:=hcs k nd hk
  have h8':w.cell? ⟨b,off+k*10+8,none⟩=some (.slice S nd.set.length cs):=h8
  have h9':w.cell? ⟨b,off+k*10+9,none⟩=some (.slice K nd.kids.length ck):=h9
  exact ⟨h0,h1,h2,h3,h4,h5,h6,h7,by simp only [slAt_eq h8'];exact h8',by simp only [slAt_eq h9'];exact h9'⟩
 ·obtain ⟨h0,h1,h2,h3,h4,h5,h6,h7,⟨v8,h8,S,cs,rfl,hs1,hs2,hsa⟩,v9,h9,K,ck,rfl,hk1,hk2,hka9⟩:=hcs k nd hk
  have h9':w.cell? ⟨b,off+k*10+9,none⟩=some (.slice K nd.kids.length ck):=h9
  simp only [slAt_eq h9']
  exact ⟨K,ck,rfl,hk1,hk2,hka9.more hB⟩
theorem right_any (t:Tr) (v:Value) (B:Nat) (w:World) (hB:B≤w.heap.size) (hf:Fit t) (hT:TreeV w B t v) (hFm:Fm w) :
  Calls Tryz.prog 9 #[v] w fun e w'=>e=.returned (.bool (rightT t))∧Below w.heap.size w w':=by
 have HT:=hide hT
 obtain ⟨av,cv,rfl,⟨A,cap,rfl,hc1,hc2,hn⟩,hns⟩:=hT
 have hb0:Below w.heap.size w (w.alloc (.cells #[.slice A t.nodes.length cap,.int .i64 t.groups,cv] 27)):=(Below.refl _ _).alloc (Nat.le_refl _) _
 have HB0:=hide hb0
 have bT:=Blk.new w 27 #[.slice A t.nodes.length cap,.int .i64 t.groups,cv]
 have HBT:=hide bT
 by_cases hpos:0<t.nodes.length
 ·have e0:decide (0<t.nodes.length)=true:=by simpa using hpos
  have CC:=hide (contains_any t.nodes A cap B (w.alloc (.cells #[.slice A t.nodes.length cap,.int .i64 t.groups,cv] 27)) (Nat.le_trans hB hb0.size) (hFm.below hb0 (Nat.le_refl _)) hf.2.1 (NodesV.keep (w:=w) ⟨A,cap,rfl,hc1,hc2,hn⟩ fun p hp=>hb0.cell (by omega)))
  have CO:=hide (fun (wx:World) (hx:Below w.heap.size w wx)=>ordered_any t (.agg #[.slice A t.nodes.length cap,.int .i64 t.groups,cv]) B wx (Nat.le_trans hB hx.size) hpos hf.1 (HT.1.keep fun p hp=>hx.cell (by omega)))
  have CN:=hide (fun (wx:World) (hx:Below w.heap.size w wx)=>named_any t (.agg #[.slice A t.nodes.length cap,.int .i64 t.groups,cv]) B wx (Nat.le_trans hB hx.size) hf.1 (HT.1.keep fun p hp=>hx.cell (by omega)))
  obtain ⟨q1,hq1⟩:∃ q,t.nodes.all nodeB=q:=⟨_,rfl⟩
  obtain ⟨q2,hq2⟩:∃ q,ordB t.nodes=q:=⟨_,rfl⟩
  obtain ⟨q3,hq3⟩:∃ q,namedB t=q:=⟨_,rfl⟩
  have HR:=hide (show rightT t=(q1&&(q2&&q3)) from by unfold rightT;rw [e0,hq1,hq2,hq3,Bool.true_and])
  rw [hq1] at CC
  rw [hq2] at CO
  rw [hq3] at CN
  clear hpos hq1 hq2 hq3 hn hns hb0 bT hFm hf
  go_enter Tryz.func9,Tryz.ntmps9
  go_wp2_with fail
  refine CC.1.mono ?_
  rintro e w2 ⟨rfl,hb2⟩
  have hb2':=HB0.1.trans (hb2.mono HB0.1.size)
  have HB2:=hide hb2'
  have bT2:=HBT.1.below hb2 (by simp)
  have c0:=bT2.cell 0
  have c1:=bT2.cell 1
  have c2:=bT2.cell 2
  have HBT2:=hide bT2
  clear CC hb2 hb2' bT2
  cases q1 with
  | false=>
   go_wp2_with fail
   go_ret
   exact ⟨by rw [HR.1];rfl,HB2.1⟩
  | true=>
   go_wp2_with fail
   refine (CO.1 w2 HB2.1).mono ?_
   rintro e w3 ⟨rfl,hb3⟩
   have HB3:=hide (HB2.1.trans (hb3.mono HB2.1.size))
   have bT3:=HBT2.1.below hb3 HBT2.1.lt
   have c0:=bT3.cell 0
   have c1:=bT3.cell 1
   have c2:=bT3.cell 2
   clear CO hb3 bT3
   cases q2 with
   | false=>
    go_wp2_with fail
    go_ret
    exact ⟨by rw [HR.1];rfl,HB3.1⟩
   | true=>
    go_wp2_with fail
    refine (CN.1 w3 HB3.1).mono ?_
    rintro e w4 ⟨rfl,hb4⟩
    have HB4:=hide (HB3.1.trans (hb4.mono HB3.1.size))
    clear CN hb4
    go_wp2_with fail
    go_ret
    exact ⟨by rw [HR.1];simp,HB4.1⟩
 ·have e0:decide (0<t.nodes.length)=false:=by simpa using hpos
  have HR:=hide (show rightT t=false from by unfold rightT;rw [e0,Bool.false_and])
  clear hpos hn hns hb0 bT hFm hf
  go_enter Tryz.func9,Tryz.ntmps9
  go_wp2_with fail
  go_ret
  exact ⟨by rw [HR.1];rfl,HB0.1⟩
end
end Go.Proofs.YtmphmddmfcaldaaGreatDoor.As
namespace Go.Proofs.YtmphmddmfcaldaaGreatDoor.Pa
open Rs (Least)
open As (Nd Tr E endN kidsN kidsB covAt covB hasI nodeOk ordB nodeB formedB countedB numsOk numF loF hiF loT hiT setF nameF nmsOf namedB rightT)
variable {i:Nat}
def AtL (L:List Nd) (i:Nat) (s:List Nd):Prop:=∀ j x,s[j]?=some x→L[i+j]?=some x
theorem AtL.head {L:List Nd} {x:Nd} {s:List Nd} (h:AtL L i (x :: s)):L[i]?=some x:=h 0 x rfl
theorem AtL.tail {L:List Nd} {x:Nd} {s:List Nd} (h:AtL L i (x :: s)):AtL L (i+1) s:=fun j y hy=>by
 have:=h (j+1) y (by simpa using hy)
 rwa [show i+(j+1)=i+1+j by omega] at this
theorem AtL.left {L:List Nd} {s t:List Nd} (h:AtL L i (s++t)):AtL L i s:=fun j y hy=>h j y (by
 rw [List.getElem?_append_left (List.getElem?_eq_some_iff.1 hy).1];exact hy)
theorem AtL.right {L:List Nd} {s t:List Nd} (h:AtL L i (s++t)):AtL L (i+s.length) t:=fun j y hy=>by
 have:=h (s.length+j) y (by rw [List.getElem?_append_right (by omega),Nat.add_sub_cancel_left];exact hy)
 rwa [show i+(s.length+j)=i+s.length+j by omega] at this
theorem idx_len:∀ (F:F) (i:Nat),(F.idx i).length=F.len
 | .nil,_=>rfl
 | .cons nd ks r,i=>by
  show (_ :: r.idx (i+1+ks.size)).length=r.len+1
  rw [List.length_cons,idx_len r]
section
variable {L:List Nd} {names:List (List UInt8)}
theorem at_cons {nd:Nd} {ks r:F} (h:AtL L i (layF names (.cons nd ks r) i)) :
  L[i]?=some { fixN names nd with kids:=ks.idx (i+1) }∧AtL L (i+1) (layF names ks (i+1))∧AtL L (i+1+ks.size) (layF names r (i+1+ks.size)):=by
 have h1:AtL L i (_ :: (layF names ks (i+1)++layF names r (i+1+ks.size))):=h
 refine ⟨h1.head,h1.tail.left,?_⟩
 have:=h1.tail.right
 rwa [layF_len] at this
theorem end_F:∀ (F:F) (i f:Nat),AtL L i (layF names F i)→F.size≤f→kidsN (endN L f) (F.idx i) i=((i+F.size:Nat):Int)
 | .nil,i,f,_,_=>rfl
 | .cons nd ks r,i,f,h,hf=>by
  obtain ⟨h1,h2,h3⟩:=at_cons h
  have hf:1+ks.size+r.size≤f:=hf
  obtain ⟨f',rfl⟩:∃ f',f=f'+1:=⟨f-1,by omega⟩
  have e1:endN L (f'+1) i=((i+1+ks.size:Nat):Int):=by
   rw [As.endN_some h1]
   exact end_F ks (i+1) f' h2 (by omega)
  show kidsN (endN L (f'+1)) ((i:Int) :: r.idx (i+1+ks.size)) i=((i+(1+ks.size+r.size):Nat):Int)
  rw [kidsN,if_pos rfl,e1,if_neg (by omega),Int.toNat_natCast,end_F r (i+1+ks.size) (f'+1) h3 (by omega)]
  congr 1;omega
theorem E_at {nd:Nd} {ks r:F} (h:AtL L i (layF names (.cons nd ks r) i)) (hl:i+(F.cons nd ks r).size≤L.length):E L i=((i+1+ks.size:Nat):Int):=by
 obtain ⟨h1,h2,h3⟩:=at_cons h
 have hl:i+(1+ks.size+r.size)≤L.length:=hl
 unfold E
 obtain ⟨f',hf'⟩:∃ f',L.length=f'+1:=⟨L.length-1,by omega⟩
 rw [hf',As.endN_some h1]
 exact end_F ks (i+1) f' h2 (by omega)
theorem kids_F (nd:Nd):∀ (F:F) (i:Nat),AtL L i (layF names F i)→i+F.size≤L.length→inF nd.from_ nd.to_ F→kidsB L nd (E L) (F.idx i) (i:Int)=true
 | .nil,i,_,_,_=>rfl
 | .cons n2 ks r,i,h,hl,hc=>by
  obtain ⟨h1,h2,h3⟩:=at_cons h
  have hl':i+(1+ks.size+r.size)≤L.length:=hl
  have ih:=kids_F nd r (i+1+ks.size) h3 (by omega) hc.2.2
  show kidsB L nd (E L) ((i:Int) :: r.idx (i+1+ks.size)) (i:Int)=true
  unfold kidsB
  rw [Int.toNat_natCast,E_at h hl,ih]
  have hcov:covAt L nd i=true:=by
   unfold covAt
   rw [h1]
   unfold covB
   simp only [Bool.and_eq_true,decide_eq_true_eq]
   have:=fix_from (names:=names) n2
   refine ⟨?_,?_⟩
   ·show nd.from_≤(fixN names n2).from_;rw [this.1];exact hc.1
   ·show (fixN names n2).to_≤nd.to_;rw [this.2.1];exact hc.2.1
  rw [hcov]
  unfold hasI
  simp
  omega
theorem ok_F:∀ (F:F) (i:Nat),AtL L i (layF names F i)→i+F.size≤L.length→okF F→∀ j,i≤j→j<i+F.size→nodeOk L j=true
 | .nil,i,_,_,_,j,h1,h2=>by have:j<i+0:=h2;omega
 | .cons nd ks r,i,h,hl,ho,j,hj1,hj2=>by
  obtain ⟨h1,h2,h3⟩:=at_cons h
  have hl':i+(1+ks.size+r.size)≤L.length:=hl
  have hj2':j<i+(1+ks.size+r.size):=hj2
  rcases Nat.lt_trichotomy i j with hlt|heq|hgt
  ·rcases Nat.lt_or_ge j (i+1+ks.size) with hk|hk
   ·exact ok_F ks (i+1) h2 (by omega) ho.2.2.1 j (by omega) (by omega)
   ·exact ok_F r (i+1+ks.size) h3 (by omega) ho.2.2.2 j (by omega) (by omega)
  ·subst heq
   unfold nodeOk
   rw [h1]
   have hf:=fix_from (names:=names) nd
   exact kids_F { fixN names nd with kids:=ks.idx (i+1) } ks (i+1) h2 (by omega) (by
    show inF (fixN names nd).from_ (fixN names nd).to_ ks
    rw [hf.1,hf.2.1];exact ho.2.1)
  ·omega
end
theorem nms_lay (names:List (List UInt8)):∀ (F:F) (i:Nat) (rest:List Nd) (acc:List (List UInt8)),nmsOf (layF names F i++rest) acc=(nmsF F acc).bind (nmsOf rest)
 | .nil,_,_,_=>rfl
 | .cons nd ks r,i,rest,acc=>by
  have hf:=fix_from (names:=names) nd
  show nmsOf (({ fixN names nd with kids:=ks.idx (i+1) }:Nd) :: (layF names ks (i+1)++layF names r (i+1+ks.size))++rest) acc=_
  rw [List.cons_append,List.append_assoc,nmsOf,nmsF]
  show (if (fixN names nd).kind=7 then (if (fixN names nd).num=(acc.length:Int) then nmsOf _ (acc++[(fixN names nd).name]) else none) else nmsOf _ acc)=_
  rw [hf.2.2.1,hf.2.2.2.1]
  by_cases h7:nd.kind=7
  ·rw [if_pos h7,if_pos h7,hf.2.2.2.2.2.2.2.2 (by omega)]
   by_cases hn:nd.num=(acc.length:Int)
   ·rw [if_pos hn,if_pos hn,nms_lay names ks,Option.bind_some,Option.bind_assoc]
    congr 1
    funext a
    exact nms_lay names r _ _ _
   ·rw [if_neg hn,if_neg hn];rfl
  ·rw [if_neg h7,if_neg h7,nms_lay names ks,Option.bind_some,Option.bind_assoc]
   congr 1
   funext a
   exact nms_lay names r _ _ _
theorem node_B {names:List (List UInt8)} (hn:names.length≤100) {n:Nat} {nd:Nd} (h:NdOk n nd) (ks:List Int) (hk:ks.length=n):nodeB { fixN names nd with kids:=ks }=true:=by
 obtain ⟨h1,h2,h3,h4,h5,h6,h7,h8⟩:=h
 have hf:=fix_from (names:=names) nd
 have hnum:nd.kind=4→0≤(fixN names nd).num∧(fixN names nd).num≤99∧(0<(fixN names nd).num∨nd.name≠[]):=by
  intro h
  unfold fixN
  split
  ·rename_i hh
   refine ⟨by show (0:Int)≤((idxOf nd.name names 0:Nat):Int);omega,?_,.inr hh.2⟩
   show ((idxOf nd.name names 0:Nat):Int)≤99
   have:=idx_lt nd.name names 0
   omega
  ·rcases h8 with h8|h8|h8|h8|h8|h8|h8|h8|h8|h8
   all_goals first|omega|exact ⟨by omega,by omega,h8.2.2.2.2.2.2⟩
 generalize hX:fixN names nd=X at hf hnum
 have hle:decide (Least X.set)=true:=by rw [hf.2.2.2.2.1];exact decide_eq_true h3
 have hset:nd.kind≠2→X.set.length=0:=fun e=>by rw [hf.2.2.2.2.1,h4 e];rfl
 have hname:nd.kind≠4→nd.kind≠7→(X.name==[])=true:=fun e e2=>by rw [hf.2.2.2.1,h5 e e2];rfl
 have hlen:X.name.length≤32:=by rw [hf.2.2.2.1];exact h2
 have hne:nd.name≠[]→(X.name==[])=false:=fun e=>by rw [hf.2.2.2.1];simpa using e
 unfold nodeB
 show (decide (1≤X.kind∧X.kind≤10)&&(formedB X.kind.toNat { X with kids:=ks }&&countedB X.kind.toNat { X with kids:=ks }&&(decide (0≤X.from_)&&decide (X.from_≤X.to_)&&decide (X.to_≤4096))))=true
 rw [hf.1,hf.2.1,decide_eq_true h1.1,decide_eq_true h1.2.1,decide_eq_true h1.2.2]
 have hkind:X.kind=nd.kind:=hf.2.2.1
 have hmn:X.mn=nd.mn:=hf.2.2.2.2.2.1
 have hmx:X.mx=nd.mx:=hf.2.2.2.2.2.2.1
 have hmode:X.mode=nd.mode:=hf.2.2.2.2.2.2.2.1
 have hoth:=hf.2.2.2.2.2.2.2.2
 rw [hkind]
 unfold formedB countedB numsOk
 have hr:(List.range 5)=[0,1,2,3,4]:=rfl
 rw [hr]
 rcases h8 with h8|h8|h8|h8|h8|h8|h8|h8|h8|h8
 ·have e8:=h8.1
  have s0:=hset (by omega)
  have n0:=hname (by omega) (by omega)
  have a6:=h6 (by omega)
  have a7:=h7 (by omega) (by omega)
  have a9:=hoth (by omega)
  rw [e8]
  simp [numF,loF,hiF,loT,hiT,setF,nameF,hle,s0,n0,hlen,hmn,hmx,hmode,a6.1,a6.2,a7,a9,h8.2.1,hk,h8.2.2]
  all_goals try omega
 ·have e8:=h8.1
  have n0:=hname (by omega) (by omega)
  have a6:=h6 (by omega)
  have a7:=h7 (by omega) (by omega)
  have a9:=hoth (by omega)
  rw [e8]
  simp [numF,loF,hiF,loT,hiT,setF,nameF,hle,n0,hlen,hmn,hmx,hmode,a6.1,a6.2,a7,a9,h8.2.1,hk,h8.2.2]
  all_goals try omega
 ·have e8:=h8.1
  have s0:=hset (by omega)
  have n0:=hname (by omega) (by omega)
  have a6:=h6 (by omega)
  have a7:=h7 (by omega) (by omega)
  have a9:=hoth (by omega)
  rw [e8]
  simp [numF,loF,hiF,loT,hiT,setF,nameF,hle,s0,n0,hlen,hmn,hmx,hmode,a6.1,a6.2,a7,a9,hk,h8.2.2.2]
  all_goals try omega
 ·have e8:=h8.1
  have s0:=hset (by omega)
  have a6:=h6 (by omega)
  have a9:=hnum e8
  rw [e8]
  have hc:(decide (0<X.num)||!(X.name==[]))=true:=by
   rcases a9.2.2 with h|h
   ·rw [decide_eq_true h];rfl
   ·rw [hne h];simp
  simp [numF,loF,hiF,loT,hiT,setF,nameF,hle,s0,hlen,hmn,hmx,hmode,a6.1,a6.2,hk,h8.2.2.2.2.2.1]
  simp at hc
  exact ⟨by omega,hc⟩
 ·have e8:=h8.1
  have s0:=hset (by omega)
  have n0:=hname (by omega) (by omega)
  have a6:=h6 (by omega)
  have a7:=h7 (by omega) (by omega)
  have a9:=hoth (by omega)
  rw [e8]
  simp [numF,loF,hiF,loT,hiT,setF,nameF,hle,s0,n0,hlen,hmn,hmx,hmode,a6.1,a6.2,a7,a9,h8.2.1,hk]
  all_goals try omega
 ·have e8:=h8.1
  have s0:=hset (by omega)
  have n0:=hname (by omega) (by omega)
  have a6:=h6 (by omega)
  have a7:=h7 (by omega) (by omega)
  have a9:=hoth (by omega)
  rw [e8]
  simp [numF,loF,hiF,loT,hiT,setF,nameF,hle,s0,n0,hlen,hmn,hmx,hmode,a6.1,a6.2,a7,a9,h8.2.1,hk]
  all_goals try omega
 ·have e8:=h8.1
  have s0:=hset (by omega)
  have a6:=h6 (by omega)
  have a7:=h7 (by omega) (by omega)
  have a9:=hoth (by omega)
  rw [e8]
  simp [numF,loF,hiF,loT,hiT,setF,nameF,hle,s0,hlen,hmn,hmx,hmode,a6.1,a6.2,a7,a9,hk,h8.2.2.2]
  omega
 ·have e8:=h8.1
  have s0:=hset (by omega)
  have n0:=hname (by omega) (by omega)
  have a9:=hoth (by omega)
  rw [e8]
  simp [numF,loF,hiF,loT,hiT,setF,nameF,hle,s0,n0,hlen,hmn,hmx,hmode,a9,h8.2.1,hk,h8.2.2.2.2.2.2.2.2.2]
  all_goals try omega
 ·have e8:=h8.1
  have s0:=hset (by omega)
  have n0:=hname (by omega) (by omega)
  have a6:=h6 (by omega)
  have a7:=h7 (by omega) (by omega)
  have a9:=hoth (by omega)
  rw [e8]
  simp [numF,loF,hiF,loT,hiT,setF,nameF,hle,s0,n0,hlen,hmn,hmx,hmode,a6.1,a6.2,a7,a9,h8.2.1,hk,h8.2.2]
  all_goals try omega
 ·have e8:=h8.1
  have s0:=hset (by omega)
  have n0:=hname (by omega) (by omega)
  have a6:=h6 (by omega)
  have a7:=h7 (by omega) (by omega)
  have a9:=hoth (by omega)
  rw [e8]
  simp [numF,loF,hiF,loT,hiT,setF,nameF,hle,s0,n0,hlen,hmn,hmx,hmode,a6.1,a6.2,a7,a9,hk,h8.2.2.2]
  all_goals try omega
theorem all_B {names:List (List UInt8)} (hn:names.length≤100):∀ (F:F) (i:Nat),okF F→(layF names F i).all nodeB=true
 | .nil,_,_=>rfl
 | .cons nd ks r,i,h=>by
  show (_ :: (layF names ks (i+1)++layF names r (i+1+ks.size))).all nodeB=true
  rw [List.all_cons,List.all_append,all_B hn ks _ h.2.2.1,all_B hn r _ h.2.2.2,node_B hn h.1 _ (idx_len ks _)]
  rfl
theorem parse_right {bs:List UInt8} {t:Tr} (h:parseP bs=.ok t):rightT t=true∧∃ nd l,t.nodes=nd :: l∧nd.to_≤bs.length:=by
 unfold parseP at h
 split at h
 ·cases h
 ·rename_i hb
  split at h
  ·cases h
  ·rename_i x st hp
   split at h
   ·cases h
   ·rename_i hlen
    injection h with h
    subst h
    have hb':bs.length≤4096:=by omega
    have hfw:=parN_fwd bs 100 _ _ _ (Nat.zero_le _) hp
    obtain ⟨hg,hf⟩:=parN_good hb' 100 _ _ _ (Nat.zero_le _) (by show 1≤1∧1≤100;omega) hp
    have hnm:nmsF (.one x) [[]]=some st.names:=hg.nms
    have hat:AtL (layF st.names (.one x) 0) 0 (layF st.names (.one x) 0):=fun j y hy=>by rw [Nat.zero_add];exact hy
    have hle:=layF_len st.names (.one x) 0
    have hsz:(F.one x).size=1+x.kids.size:=rfl
    refine ⟨?_,_,_,rfl,?_⟩
    ·unfold rightT
     show (decide (0<(layF st.names (.one x) 0).length)&&((layF st.names (.one x) 0).all nodeB&&(ordB (layF st.names (.one x) 0)&&namedB _)))=true
     rw [decide_eq_true (by rw [hle,hsz];omega),all_B hf.2 _ _ hg.ok]
     have h1:ordB (layF st.names (.one x) 0)=true:=by
      unfold ordB
      rw [Bool.and_eq_true,List.all_eq_true,decide_eq_true_eq]
      refine ⟨fun j hj=>ok_F (.one x) 0 hat (by rw [hle];omega) hg.ok j (Nat.zero_le _) (by rw [List.mem_range,hle] at hj;omega),?_⟩
      rw [E_at (nd:=x.nd) (ks:=x.kids) (r:=.nil) hat (by rw [hle];exact Nat.le_of_eq (Nat.zero_add _)),hle,hsz]
      try (congr 1;omega)
     have h2:namedB ⟨layF st.names (.one x) 0,(st.names.length:Int)-1,st.names⟩=true:=by
      unfold namedB
      have e:=nms_lay st.names (.one x) 0 [] [[]]
      rw [List.append_nil,hnm] at e
      rw [show nmsOf (⟨layF st.names (.one x) 0,(st.names.length:Int)-1,st.names⟩:Tr).nodes [[]]=some st.names from e]
      simp
     rw [h1,h2]
     rfl
    ·have:=hg.hi
     show (fixN st.names x.nd).to_≤_
     rw [(fix_from x.nd).2.1]
     omega
end Go.Proofs.YtmphmddmfcaldaaGreatDoor.Pa
