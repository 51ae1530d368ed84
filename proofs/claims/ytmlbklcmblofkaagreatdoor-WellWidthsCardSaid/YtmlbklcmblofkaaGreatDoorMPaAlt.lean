/-
  The reader's alternative, walked.
-/
import Derived.Test.YtmlbklcmblofkaaGreatDoorMPaF
set_option linter.unusedSimpArgs false
set_option linter.unusedVariables false
set_option maxHeartbeats 8000000
set_option maxRecDepth 100000
namespace Go.Proofs.YtmlbklcmblofkaaGreatDoor.Pa
open Go.RowKit Mem
open Sy (g)
attribute [local go_sem] build_pz build_fl build_f0
def ARel (bs:List UInt8) (A:Option Addr) (cap:Nat) (w0:World) (rb nest:Nat) (st:St) (nv:Value) (inner:Option (St→Res Pt)) (w:World) (v:Value) (wr:World):Prop:=
 ∃ (s0:St) (l:F) (nv':Value) (xs:List Value),altP bs inner st=altF bs inner st.pos s0 l∧s0.pos≤bs.length∧l.len≤s0.pos∧Left bs A cap w0 rb nest nv w (skipP bs s0) nv' wr ∧
  wr.ownsRow (w.heap.size+2) 78 11 v l.len xs∧RL (PP (w.heap.size+2) nv' v) wr l xs∧Blk wr w.heap.size 78 #[.int .i64 0,.int .i64 0,.int .i64 0,.int .i64 0,.int .i64 0,.int .i64 0,.int .i64 0,.string ⟨#[]⟩,.slice none 0 0,.slice none 0 0,.slice none 0 0]∧Blk wr (w.heap.size+1) 80 #[.int .i64 0,.int .i64 0]
theorem alternative_any {bs:List UInt8} {A:Option Addr} {cap:Nat} {w0:World} {rb nest:Nat} {st:St} {nv:Value} {w:World} (h:Rd bs A cap w0 rb nest st nv w) (inner:Option (St→Res Pt)) (hfw:∀ i,inner=some i→Fwd bs i)
  (CP:∀ (s:St) W nv1,Rd bs A cap w0 rb nest s nv1 W→s.pos<bs.length→Calls Tryz.prog 39 #[Value.pointer (some ⟨rb,0,none⟩)] W (GiveP bs A cap w0 rb nest nv1 W (pieceP bs inner s))) :
  Calls Tryz.prog 34 #[Value.pointer (some ⟨rb,0,none⟩)] w (GiveP bs A cap w0 rb nest nv w (altP bs inner st)):=by
 have hbb:Below w.heap.size w ((w.alloc (.cells #[.int .i64 0,.int .i64 0,.int .i64 0,.int .i64 0,.int .i64 0,.int .i64 0,.int .i64 0,.string ⟨#[]⟩,.slice none 0 0,.slice none 0 0,.slice none 0 0] 78)).alloc (.cells #[.int .i64 0,.int .i64 0] 80)):=((Below.refl _ w).alloc (Nat.le_refl _) _).alloc (by simp) _
 have HS:=hide (show RB bs A cap w0 rb nest st nv ((w.alloc (.cells #[.int .i64 0,.int .i64 0,.int .i64 0,.int .i64 0,.int .i64 0,.int .i64 0,.int .i64 0,.string ⟨#[]⟩,.slice none 0 0,.slice none 0 0,.slice none 0 0] 78)).alloc (.cells #[.int .i64 0,.int .i64 0] 80)) ((w.alloc (.cells #[.int .i64 0,.int .i64 0,.int .i64 0,.int .i64 0,.int .i64 0,.int .i64 0,.int .i64 0,.string ⟨#[]⟩,.slice none 0 0,.slice none 0 0,.slice none 0 0] 78)).alloc (.cells #[.int .i64 0,.int .i64 0] 80)) from ⟨h.below hbb,Below.refl _ _⟩)
 have HKP:=hide ((Blk.new w 78 #[.int .i64 0,.int .i64 0,.int .i64 0,.int .i64 0,.int .i64 0,.int .i64 0,.int .i64 0,.string ⟨#[]⟩,.slice none 0 0,.slice none 0 0,.slice none 0 0]).alloc (.cells #[.int .i64 0,.int .i64 0] 80))
 have HKF:=hide (blk_at (W:=(w.alloc (.cells #[.int .i64 0,.int .i64 0,.int .i64 0,.int .i64 0,.int .i64 0,.int .i64 0,.int .i64 0,.string ⟨#[]⟩,.slice none 0 0,.slice none 0 0,.slice none 0 0] 78))) (g:=w.heap.size+1) (t:=80) (cs:=#[.int .i64 0,.int .i64 0]) (by simp))
 have HB:=hide hbb
 have HW:=hide h
 have hlt:=h.blk.lt
 have habv:=h.above
 have CS:=hide (fun W nv1 s (hr:Rd bs A cap w0 rb nest s nv1 W)=>skip_any hr none)
 have CP:=hide CP
 have HFW:=hide hfw
 have htop:=h.top
 have HPOS:=hide h.pos
 have q1:=(h.below hbb).c1
 clear h hbb hfw
 go_enter Tryz.func34,Tryz.ntmps34
 go_wp2_with fail
 generalize ((w.alloc (.cells #[.int .i64 0,.int .i64 0,.int .i64 0,.int .i64 0,.int .i64 0,.int .i64 0,.int .i64 0,.string ⟨#[]⟩,.slice none 0 0,.slice none 0 0,.slice none 0 0] 78)).alloc (.cells #[.int .i64 0,.int .i64 0] 80))=X at *
 have hXs:w.heap.size+2≤X.heap.size:=HKF.1.lt
 refine (CS.1 _ _ _ HS.1.1).mono ?_
 rintro e X1 ⟨rfl,hr,ht⟩
 have HR0:=hide (show ARel bs A cap w0 rb nest st nv inner w (.slice none 0 0) X1 from ⟨st,.nil,nv,[],rfl,HPOS.1,Nat.zero_le _,Left.from HB.1 (Left.of_turn hr ht),⟨rfl,.inl ⟨rfl,rfl⟩⟩,rfl,Turn.blk ht HKP.1 (by omega),Turn.blk ht HKF.1 (by omega)⟩)
 clear hr ht HS HKP HKF HB HPOS q1
 go_wp2_with fail
 go_loopw [5] (fun v wr=>ARel bs A cap w0 rb nest st nv inner w v wr) (fun _ wr=>bs.length-posW rb wr)
 case atStart=>exact HR0.1
 case round=>
  obtain ⟨v,hv⟩:∃ v,v=u5:=⟨_,rfl⟩
  subst hv
  obtain ⟨s0,l,nv',xs,hF,hs0,hl,hL,ho,hRL,hk,hf⟩:=hrel
  go_hideQ
  clear HR0
  have hsk:=skip_on bs s0 hs0
  have hpw:=posW_eq hL.rd
  have CE:=hide (ended_any hL.rd)
  have HF:=hide hF
  have HO:=hide ho
  have HRL:=hide hRL
  have HL:=hide hL
  have HK:=hide hk
  have HKF:=hide hf
  have hwr:=hL.turn.size
  have hkl:=hk.lt
  have hfl:=hf.lt
  clear hF ho hRL hk hf hL
  cases he:endB bs (skipP bs s0).pos with
  | true=>
   rw [he] at CE
   have HALT:=hide (HF.1.trans (alt_end he))
   go_wp2_with fail
   refine CE.1.mono ?_
   rintro e W1 ⟨rfl,hb1⟩
   have HL1:=hide (HL.1.below hb1)
   have HO1:=hide (own_bel HO.1 hb1)
   have HRL1:=hide (HRL.1.below hb1)
   have HK1:=hide (HK.1.below hb1 hkl)
   have HKF1:=hide (HKF.1.below hb1 hfl)
   clear hb1 CE HL HO HRL HK HKF CP CS HF he
   have CE0:True:=trivial
   have hps:=hsk.1
   match l,HALT,HO1,HRL1,hl with
   | .nil,HALT,HO1,HRL1,hl=>
    obtain ⟨An,cn,rfl⟩:∃ An cn,v=.slice An 0 cn:=by
     rcases HO1.1.2 with ⟨e,-⟩|⟨b,c,cur,e,-⟩
     ·exact ⟨_,_,e⟩
     ·exact ⟨_,_,e⟩
    have CR:=row_none An cn (st.pos:Int) W1
    unfold ptC at CR
    have CR:=hide CR
    clear CE0
    go_wp2_with fail
    refine CR.1.mono ?_
    rintro e W2 ⟨rfl,hb2⟩
    have HL2:=hide (HL1.1.below hb2)
    have HK2:=hide (HK1.1.below hb2 HK1.1.lt)
    have HKF2:=hide (HKF1.1.below hb2 HKF1.1.lt)
    have HP2:=hide (show PtV (Ok (w.heap.size+2) nv') W2 (rowP F.nil st.pos) _ from ⟨none,0,none,0,rfl,SetV.nil _ _,KV.nil _ _⟩)
    obtain ⟨⟨y0,y1,y2,y3,y4,y5,y6,y7,y8,y9,y10⟩,z0,z1,z2,z3,z4,z5,z6,z7,z8,z9,z10⟩:=cells11 HK2.1
    obtain ⟨⟨u20,u21⟩,v20,v21⟩:=cells2 HKF2.1
    clear hb2 CR
    go_wp2_with fail
    (try simp only [Exit.inBlock,Exit.then])
    have hq:=blk13 HK2.1 HKF2.1 (by omega) rfl rfl
    exact bodyPost_ret (rcc rfl w.heap.size (w.heap.size+1) rfl rfl (hq _ _ _ _ _ _ _ _ _ _ _ _ _)) rfl (by rw [HALT.1];exact ⟨_,nv',rfl,(HP2.1.set13 (by omega) (by omega) _ _ _ _ _ _ _ _ _ _ _ _ _).lower (by omega),HL2.1.set13 HK2.1 HKF2.1 hlt (Nat.le_refl _) (by omega) (by omega) _ _ _ _ _ _ _ _ _ _ _ _ _⟩)
   | .cons nd ks .nil,HALT,HO1,HRL1,hl=>
    obtain ⟨bb,cn,hvv,hbb,hcs⟩:=own_cells HO1.1 (by show 0<0+1;omega)
    obtain ⟨L,lc,K,kc,xs',hxs,hset,hkv,hrest⟩:=HRL1.1
    have hxs':xs'=[]:=hrest
    subst hxs'
    rw [List.append_nil] at hxs
    have hat:At W1 bb 0 (ptN nd L lc K ks.len kc):=fun j u hu=>by
     rw [Nat.zero_add]
     exact hcs j u (by rw [hxs];simpa using hu)
    subst hvv
    have hset2:=hide hset
    have hkv2:=hide hkv
    clear hset hkv hcs hxs hrest
    have CR:=row_one bb 0 cn (st.pos:Int) nd.kind nd.from_ nd.to_ nd.num nd.mn nd.mx nd.mode nd.name L nd.set.length lc K ks.len kc W1 hbb hat
    unfold ptC at CR
    have CR:=hide CR
    clear CE0
    go_wp2_with fail
    refine CR.1.mono ?_
    rintro e W2 ⟨rfl,hb2⟩
    have HL2:=hide (HL1.1.below hb2)
    have HK2:=hide (HK1.1.below hb2 HK1.1.lt)
    have HKF2:=hide (HKF1.1.below hb2 HKF1.1.lt)
    have HP2:=hide (show PtV (Ok (w.heap.size+2) nv') W2 (rowP (F.cons nd ks .nil) st.pos) _ from ⟨L,lc,K,kc,rfl,hset2.1.keep hb2.size fun k hk hP=>⟨hb2.block k hk,hP.1⟩,hkv2.1.keep hb2.size fun k hk hP=>⟨hb2.block k hk,hP.1⟩⟩)
    obtain ⟨⟨y0,y1,y2,y3,y4,y5,y6,y7,y8,y9,y10⟩,z0,z1,z2,z3,z4,z5,z6,z7,z8,z9,z10⟩:=cells11 HK2.1
    obtain ⟨⟨u20,u21⟩,v20,v21⟩:=cells2 HKF2.1
    clear hb2 CR
    go_wp2_with fail
    (try simp only [Exit.inBlock,Exit.then])
    have hq:=blk13 HK2.1 HKF2.1 (by omega) rfl rfl
    exact bodyPost_ret (rcc rfl w.heap.size (w.heap.size+1) rfl rfl (hq _ _ _ _ _ _ _ _ _ _ _ _ _)) rfl (by rw [HALT.1];exact ⟨_,nv',rfl,(HP2.1.set13 (by omega) (by omega) _ _ _ _ _ _ _ _ _ _ _ _ _).lower (by omega),HL2.1.set13 HK2.1 HKF2.1 hlt (Nat.le_refl _) (by omega) (by omega) _ _ _ _ _ _ _ _ _ _ _ _ _⟩)
   | .cons nd ks (.cons n2 k2 r2),HALT,HO1,HRL1,hl=>
    obtain ⟨bb,cn,hvv,hbb,hcs⟩:=own_cells HO1.1 (by show 0<r2.len+1+1;omega)
    have hrow:=RL.row (b:=bb) (o:=0) HRL1.1 (fun j u hu=>by rw [Nat.zero_add];exact hcs j u hu)
    obtain ⟨⟨L,lc,K,kc,hat,-⟩,-⟩:=hrow
    obtain ⟨ndl,Ll,lcl,Kl,knl,kcl,hlat,hlto⟩:=RL.last HRL1.1 nd.to_ (by show 0<r2.len+1+1;omega)
    have hatl:At W1 bb (0+(r2.len+1)*11) (ptN ndl Ll lcl Kl knl kcl):=fun j u hu=>by
     rw [Nat.zero_add]
     exact hcs _ u (hlat j u hu)
    have hok:Ok (w.heap.size+2) nv' bb:=⟨(own_lt HO1.1 (by rw [hvv];rfl)).1,fun e=>by
     rcases own_two_ne HO1.1 HL1.1.rd.own (by decide) with hq|hq
     ·rw [hvv] at hq;cases hq
     ·exact hq (by rw [hvv,e];rfl)⟩
    have HROW:=hide (Row.keep (Q:=Ok (w.heap.size+2) nv') (Nat.le_refl _) (fun k hk hP=>⟨rfl,hP.1⟩) rfl (RL.row (b:=bb) (o:=0) HRL1.1 (fun j u hu=>by rw [Nat.zero_add];exact hcs j u hu)))
    have hcn:r2.len+1+1≤cn∧cn≤9223372036854775807:=own_cap HO1.1 hvv
    have HLTO:=hide hlto
    clear hlto
    subst hvv
    have hlen5:r2.len+1≤5000:=by have:r2.len+1+1≤s0.pos:=hl;omega
    clear hcs hlat
    have CR:=row_many bb 0 (r2.len+1+1) (r2.len+1) cn (st.pos:Int) nd.kind nd.from_ nd.to_ nd.num nd.mn nd.mx nd.mode nd.name L nd.set.length lc K ks.len kc ndl.kind ndl.from_ ndl.to_ ndl.num ndl.mn ndl.mx ndl.mode ndl.name Ll ndl.set.length lcl Kl knl kcl W1 hbb hat hatl rfl (by omega) hlen5
    unfold ptC at CR
    have CR:=hide CR
    clear CE0
    go_wp2_with fail
    refine CR.1.mono ?_
    rintro e W2 ⟨rfl,hb2⟩
    have HL2:=hide (HL1.1.below hb2)
    have HK2:=hide (HK1.1.below hb2 HK1.1.lt)
    have HKF2:=hide (HKF1.1.below hb2 HKF1.1.lt)
    have HP2:=hide (show PtV (Ok (w.heap.size+2) nv') W2 (rowP (F.cons nd ks (.cons n2 k2 r2)) st.pos) (.agg (ptC 5 nd.from_ ndl.to_ 0 0 0 0 [] none 0 0 (some ⟨bb,0,none⟩) (r2.len+1+1) cn)) from ⟨none,0,some ⟨bb,0,none⟩,cn,congrArg (fun z=>Value.agg (ptC 5 nd.from_ z 0 0 0 0 [] none 0 0 (some ⟨bb,0,none⟩) (r2.len+1+1) cn)) HLTO.1,SetV.nil _ _,hcn.1,hcn.2,.inr ⟨bb,0,rfl,hok,Nat.lt_of_lt_of_le hbb hb2.size,Row.keep hb2.size (fun k hk hP=>⟨hb2.block k hk,hP⟩) (hb2.block bb hbb) HROW.1⟩⟩)
    obtain ⟨⟨y0,y1,y2,y3,y4,y5,y6,y7,y8,y9,y10⟩,z0,z1,z2,z3,z4,z5,z6,z7,z8,z9,z10⟩:=cells11 HK2.1
    obtain ⟨⟨u20,u21⟩,v20,v21⟩:=cells2 HKF2.1
    clear hb2 CR
    go_wp2_with fail
    (try simp only [Exit.inBlock,Exit.then])
    have hq:=blk13 HK2.1 HKF2.1 (by omega) rfl rfl
    exact bodyPost_ret (rcc rfl w.heap.size (w.heap.size+1) rfl rfl (hq _ _ _ _ _ _ _ _ _ _ _ _ _)) rfl (by rw [HALT.1];exact ⟨_,nv',rfl,(HP2.1.set13 (by omega) (by omega) _ _ _ _ _ _ _ _ _ _ _ _ _).lower (by omega),HL2.1.set13 HK2.1 HKF2.1 hlt (Nat.le_refl _) (by omega) (by omega) _ _ _ _ _ _ _ _ _ _ _ _ _⟩)
  | false=>
   rw [he] at CE
   have hin:=end_no he
   go_wp2_with fail
   refine CE.1.mono ?_
   rintro e W1 ⟨rfl,hb1⟩
   have HL1:=hide (HL.1.below hb1)
   have HO1:=hide (own_bel HO.1 hb1)
   have HRL1:=hide (HRL.1.below hb1)
   have HK1:=hide (HK.1.below hb1 hkl)
   have HKF1:=hide (HKF.1.below hb1 hfl)
   have h1s:=hb1.size
   clear hb1 CE HL HO HRL HK HKF
   go_wp2_with fail
   refine (CP.1 _ _ _ HL1.1.rd hin).mono ?_
   rintro e W6 hG
   cases hx:pieceP bs inner (skipP bs s0) with
   | error er=>
    obtain ⟨k,pl⟩:=er
    rw [hx] at hG
    obtain ⟨hk0,rfl,st',nv6,hL6⟩:=hG
    have HALT:=hide (HF.1.trans (alt_bad he hx))
    have e1:((k:Int) != 0)=true:=by rw [bne_iff_ne];omega
    have hk0:=hide hk0
    have hbV:Below W6.heap.size W6 ((W6.alloc (.cells #[.int .i64 0,.int .i64 0,.int .i64 0,.int .i64 0,.int .i64 0,.int .i64 0,.int .i64 0,.string ⟨#[]⟩,.slice none 0 0,.slice none 0 0,.slice none 0 0] 78)).alloc (.cells #[.int .i64 (k:Int),.int .i64 (pl:Int)] 80)):=((Below.refl W6.heap.size W6).alloc (Nat.le_refl _) (.cells #[.int .i64 0,.int .i64 0,.int .i64 0,.int .i64 0,.int .i64 0,.int .i64 0,.int .i64 0,.string ⟨#[]⟩,.slice none 0 0,.slice none 0 0,.slice none 0 0] 78)).alloc (by simp) (.cells #[.int .i64 (k:Int),.int .i64 (pl:Int)] 80)
    have HK6:=hide ((Left.blk HL1.1.rd hL6 HK1.1 (by decide) (by omega)).below hbV (Left.blk HL1.1.rd hL6 HK1.1 (by decide) (by omega)).lt)
    have HF6:=hide ((Left.blk HL1.1.rd hL6 HKF1.1 (by decide) (by omega)).below hbV (Left.blk HL1.1.rd hL6 HKF1.1 (by decide) (by omega)).lt)
    have HL6:=hide ((HL1.1.then hL6).below hbV)
    have HS6:=hide (blk_at (W:=W6.alloc (.cells #[.int .i64 0,.int .i64 0,.int .i64 0,.int .i64 0,.int .i64 0,.int .i64 0,.int .i64 0,.string ⟨#[]⟩,.slice none 0 0,.slice none 0 0,.slice none 0 0] 78)) (g:=W6.heap.size+1) (t:=80) (cs:=#[.int .i64 (k:Int),.int .i64 (pl:Int)]) (by simp))
    have h6s:=hL6.turn.size
    clear hL6 hbV HO1 HRL1 HK1 HKF1 HL1 CP CS he hx
    go_wp2_with fail
    have hVs:W6.heap.size+2≤((W6.alloc (.cells #[.int .i64 0,.int .i64 0,.int .i64 0,.int .i64 0,.int .i64 0,.int .i64 0,.int .i64 0,.string ⟨#[]⟩,.slice none 0 0,.slice none 0 0,.slice none 0 0] 78)).alloc (.cells #[.int .i64 (k:Int),.int .i64 (pl:Int)] 80)).heap.size:=by simp
    generalize ((W6.alloc (.cells #[.int .i64 0,.int .i64 0,.int .i64 0,.int .i64 0,.int .i64 0,.int .i64 0,.int .i64 0,.string ⟨#[]⟩,.slice none 0 0,.slice none 0 0,.slice none 0 0] 78)).alloc (.cells #[.int .i64 (k:Int),.int .i64 (pl:Int)] 80))=V at *
    have hff:=err_facts HK6.1 HF6.1 HS6.1 (by omega) (by omega)
    obtain ⟨⟨a0,a1⟩,-⟩:=hff (.int .i64 0) (.int .i64 0) (.int .i64 0) (.int .i64 0) (.int .i64 0) (.int .i64 0) (.int .i64 0) (.string ⟨#[]⟩) (.slice none 0 0) (.slice none 0 0) (.slice none 0 0)
    obtain ⟨-,⟨b0,b1⟩⟩:=hff (.int .i64 0) (.int .i64 0) (.int .i64 0) (.int .i64 0) (.int .i64 0) (.int .i64 0) (.int .i64 0) (.string ⟨#[]⟩) (.slice none 0 0) (.slice none 0 0) (.slice none 0 0)
    obtain ⟨⟨y0,y1,y2,y3,y4,y5,y6,y7,y8,y9,y10⟩,z0,z1,z2,z3,z4,z5,z6,z7,z8,z9,z10⟩:=cells11 HK6.1
    obtain ⟨⟨u20,u21⟩,v20,v21⟩:=cells2 HF6.1
    obtain ⟨⟨p20,p21⟩,q20,q21⟩:=cells2 (far11 HF6.1 (show w.heap.size+1≠w.heap.size by omega) (.int .i64 0) (.int .i64 0) (.int .i64 0) (.int .i64 0) (.int .i64 0) (.int .i64 0) (.int .i64 0) (.string ⟨#[]⟩) (.slice none 0 0) (.slice none 0 0) (.slice none 0 0))
    clear hff
    go_region
    all_goals
     go_wp2_with fail
     (try simp only [Exit.inBlock,Exit.then])
     have hq:=blk13 HK6.1 HF6.1 (by omega) rfl rfl
     exact bodyPost_ret (rcc rfl w.heap.size (w.heap.size+1) rfl rfl ⟨(hq _ _ _ _ _ _ _ _ _ _ _ _ _).1.drew,(hq _ _ _ _ _ _ _ _ _ _ _ _ _).2.drew⟩) rfl (by rw [HALT.1];exact ⟨hk0.1,rfl,st',nv6,((HL6.1.set13 HK6.1 HF6.1 hlt (Nat.le_refl _) (by omega) (by omega) _ _ _ _ _ _ _ _ _ _ _ _ _).below (Below.refl _ _).drew)⟩)
   | ok t=>
    obtain ⟨x,st2⟩:=t
    rw [hx] at hG
    obtain ⟨v1,nv6,hev,hp,hL6⟩:=hG
    obtain ⟨u0,u1,u2,u3,u4,u5,u6,s1,L,ln,lc,K,kn,kc,rfl,hu0,-,-⟩:=hp.form
    subst hev
    have hon:=piece_on HFW.1 hin hx
    have hst:=alt_step (fr:=st.pos) (l:=l) HFW.1 hs0 he hx
    have hsk2:=skip_on bs st2 hon.2
    have hbV:Below W6.heap.size W6 ((W6.alloc (.cells #[.int .i64 u0,.int .i64 u1,.int .i64 u2,.int .i64 u3,.int .i64 u4,.int .i64 u5,.int .i64 u6,.string ⟨s1.toArray⟩,.slice L ln lc,.slice none 0 0,.slice K kn kc] 78)).alloc (.cells #[.int .i64 0,.int .i64 0] 80)):=((Below.refl W6.heap.size W6).alloc (Nat.le_refl _) (.cells #[.int .i64 u0,.int .i64 u1,.int .i64 u2,.int .i64 u3,.int .i64 u4,.int .i64 u5,.int .i64 u6,.string ⟨s1.toArray⟩,.slice L ln lc,.slice none 0 0,.slice K kn kc] 78)).alloc (by simp) (.cells #[.int .i64 0,.int .i64 0] 80)
    have HK6:=hide ((Left.blk HL1.1.rd hL6 HK1.1 (by decide) (by omega)).below hbV (Left.blk HL1.1.rd hL6 HK1.1 (by decide) (by omega)).lt)
    have HF6:=hide ((Left.blk HL1.1.rd hL6 HKF1.1 (by decide) (by omega)).below hbV (Left.blk HL1.1.rd hL6 HKF1.1 (by decide) (by omega)).lt)
    have HO6:=hide (own_bel (own_left HO1.1 HL1.1.rd hL6 (by omega)) hbV)
    have HRL6:=hide ((HRL1.1.left hL6 (by omega)).below hbV)
    have hvb:∀ k,v.ownBlock=some k→k<W1.heap.size:=fun k e=>(own_lt HO1.1 e).2
    have HPX:=hide ((hp.below hbV).keep (Q:=PP (w.heap.size+2) nv6 v) (Nat.le_refl _) fun k _ hP=>⟨rfl,⟨by have:=hP.1;omega,hP.2⟩,fun e=>by have:=hvb k e;have:=hP.1;omega⟩)
    have hpb:=(Blk.new W6 78 #[.int .i64 u0,.int .i64 u1,.int .i64 u2,.int .i64 u3,.int .i64 u4,.int .i64 u5,.int .i64 u6,.string ⟨s1.toArray⟩,.slice L ln lc,.slice none 0 0,.slice K kn kc]).alloc (.cells #[.int .i64 0,.int .i64 0] 80)
    obtain ⟨⟨p0,p1,p2,p3,p4,p5,p6,p7,p8,p9,p10⟩,-⟩:=cells11 hpb
    have HL6:=hide ((HL1.1.then hL6).below hbV)
    have h6s:=hL6.turn.size
    have hVs:W6.heap.size+2≤((W6.alloc (.cells #[.int .i64 u0,.int .i64 u1,.int .i64 u2,.int .i64 u3,.int .i64 u4,.int .i64 u5,.int .i64 u6,.string ⟨s1.toArray⟩,.slice L ln lc,.slice none 0 0,.slice K kn kc] 78)).alloc (.cells #[.int .i64 0,.int .i64 0] 80)).heap.size:=by simp
    have HPS:=hide hpw
    clear hL6 hbV HO1 HRL1 HK1 HKF1 HL1 CP hp hvb hpb he hx
    by_cases hk0:x.nd.kind=0
    ·rw [if_pos hk0] at hst
     have HF2:=hide (HF.1.trans hst)
     have e0:(u0 != 0)=false:=by rw [hu0,hk0];rfl
     have e0':u0=0:=by rw [hu0];exact hk0
     have HE0:=hide e0'
     clear hst hk0 hu0 e0' HPX
     go_wp2_with fail
     clear p0 p1 p2 p3 p4 p5 p6 p7 p8 p9 p10
     generalize ((W6.alloc (.cells #[.int .i64 u0,.int .i64 u1,.int .i64 u2,.int .i64 u3,.int .i64 u4,.int .i64 u5,.int .i64 u6,.string ⟨s1.toArray⟩,.slice L ln lc,.slice none 0 0,.slice K kn kc] 78)).alloc (.cells #[.int .i64 0,.int .i64 0] 80))=V at *
     refine (CS.1 _ _ _ HL6.1.rd).mono ?_
     rintro e W8 ⟨rfl,hr8,ht8⟩
     have hrow:∀ k,v.ownBlock=some k→k≠rb∧some k≠(none:Option Nat):=fun k e=>⟨by have:=(own_lt HO6.1 e).1;omega,by simp⟩
     have hL8:=Left.of_turn hr8 ht8
     have hR:ARel bs A cap w0 rb nest st nv inner w v W8:=⟨st2,l,nv6,xs,HF2.1,hon.2,by omega,HL6.1.then hL8,own_turn HO6.1 ht8 hrow,HRL6.1.left hL8 (by omega),Turn.blk ht8 HK6.1 (by omega),Turn.blk ht8 HF6.1 (by omega)⟩
     have hp8:=posW_eq hr8
     have hM:bs.length-posW rb W8<bs.length-posW rb wr:=by rw [hp8,HPS.1];omega
     go_wp2_with fail
     first|exact ⟨hR,hM⟩|exact ⟨hR,by simpa using hM⟩|(go_roundw;all_goals first|exact hR|exact hM|(simp [intOf];omega))
    ·rw [if_neg hk0] at hst
     have HF2:=hide (HF.1.trans hst)
     have e0:(u0 != 0)=true:=by rw [hu0,bne_iff_ne];exact hk0
     clear hst hk0 hu0
     go_wp2_with (at_builtin;refine wp_app_pt (base:=w.heap.size+2) (n:=l.len) (xs:=xs) (v:=v) rfl (by simp [Value.oneCell']) rfl rfl rfl rfl (by simp) HO6.1 (by omega) (by omega) ?_;intro v7 w7 hv7 ho7 ha7 hb7;have HV7:=hide hv7;have HO7:=hide ho7;have HA7:=hide ha7;have HB7:=hide hb7;clear hv7 ho7 ha7 hb7)
     clear p0 p1 p2 p3 p4 p5 p6 p7 p8 p9 p10
     generalize ((W6.alloc (.cells #[.int .i64 u0,.int .i64 u1,.int .i64 u2,.int .i64 u3,.int .i64 u4,.int .i64 u5,.int .i64 u6,.string ⟨s1.toArray⟩,.slice L ln lc,.slice none 0 0,.slice K kn kc] 78)).alloc (.cells #[.int .i64 0,.int .i64 0] 80))=V at *
     have HL7:=hide (HL6.1.app HA7.1 HO6.1 (by omega) (by omega))
     have HK7:=hide (HA7.1.blk HO6.1 HK6.1 (by omega))
     have HF7:=hide (HA7.1.blk HO6.1 HF6.1 (by omega))
     have HRL7:=hide (RL.app HRL6.1 HPX.1 HA7.1 HB7.1)
     refine (CS.1 _ _ _ HL7.1.rd).mono ?_
     rintro e W8 ⟨rfl,hr8,ht8⟩
     have hrow:∀ k,v7.ownBlock=some k→k≠rb∧some k≠(none:Option Nat):=fun k e=>⟨by have:=(own_lt HO7.1 e).1;omega,by simp⟩
     have hL8:=Left.of_turn hr8 ht8
     have hR:ARel bs A cap w0 rb nest st nv inner w v7 W8:=⟨st2,l.app x,nv6,_,HF2.1,hon.2,by rw [F.len_app'];omega,HL7.1.then hL8,by rw [F.len_app'];exact own_turn HO7.1 ht8 hrow,HRL7.1.left hL8 (by omega),Turn.blk ht8 HK7.1 (by omega),Turn.blk ht8 HF7.1 (by omega)⟩
     have hp8:=posW_eq hr8
     have hM:bs.length-posW rb W8<bs.length-posW rb wr:=by rw [hp8,HPS.1];omega
     go_wp2_with fail
     first|exact ⟨hR,hM⟩|exact ⟨hR,by simpa using hM⟩|(go_roundw;all_goals first|exact hR|exact hM|(simp [intOf];omega))
end Go.Proofs.YtmlbklcmblofkaaGreatDoor.Pa
