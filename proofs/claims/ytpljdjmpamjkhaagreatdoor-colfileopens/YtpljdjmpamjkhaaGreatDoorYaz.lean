import Derived.Test.YtpljdjmpamjkhaaGreatDoorYaw
import Derived.Test.YtpljdjmpamjkhaaGreatDoorYac
import Derived.Laws.IdiomStrings
set_option linter.unusedVariables false
set_option linter.unusedSimpArgs false
set_option maxRecDepth 100000
set_option maxHeartbeats 4000000
namespace Go.Proofs.YtpljdjmpamjkhaaGreatDoor
open Go.RowKit Go.Lib
theorem sG{w:World}{ops:Array Oper}{rest:List Oper}{o:Oper}{a:Act}{Q:Exit->Act->World->Prop}(ee:o.guard=none)(s x:Operand)
  (ho:o.op=.call { callee:=.builtin .append,args:=#[s,x],argTypes:=#[30,30] })
  (base:Nat) (v vx:Value) (l0 l:List Nat) (hs:a.eval s=v) (az:aC w base v l0) (hx:a.eval x=vx) (fo:Sv w vx (aE .u8 l))
  (hbytes:l0.length+l.length<=140737488355328) (aH:base<=w.heap.size)
  (h:∀ v' w',aC w' base v' (l0++l)->w.grownBy w' v.ownBlock->wpList Tryz.prog ops Q rest (a.put o.dst v') w') :
  wpList Tryz.prog ops Q (o::rest) a w:=by
 obtain⟨i0,hi,ce,hz1',bm⟩:=info_parts jf;unfold aC at *;obtain⟨ad,cap,rfl,h1,h2,h3,h4⟩:=fo;rw[ap]at *;cases ad with
 | none =>
  have hc:=h3 rfl;subst hc;have hl:l=[]:=jab (by omega);subst hl;refine wpList_plain ee fun K hK=>?_
  have hr:=run_append_owned_none (P:=Tryz.prog) (w:=w) base 30 o.type 5 i0 1 Tryz.underlying30 hi v l0.length (aE .u8 l0) az;unfold Oper.wp execOp;simp only[ho,resolve,invoke,builtin,Sem.run_bind,Sem.run_pure,Result.andThen_ok,jaU,jal,jaG,hs,hx,hr,jad];refine hK _ _ (h v w ?_ ⟨rfl,rfl,rfl,ZR _,fun _ _ _=>rfl⟩);rw[Z7];exact az
 | some ad =>
  refine wpList_append_own_at (w:=w) ee s x 30 ho base 5 i0 (.int .u8 0) 1 1 Tryz.underlying30 hi ce hz1' bm rfl (by decide) v l0.length (aE .u8 l0) hs az ad l.length cap (aE .u8 l) hx (by rw[ap];omega) ?_ (fP _ _) (by unfold maxLen;omega) (by omega) aH ?_
  ·intro j u hu
   have hj:j<l.length:=by
    have:=(List.getElem?_eq_some_iff.1 hu).1;rwa[ap]at this
   obtain⟨b,off,h5,_,h6⟩:=h4 (by omega);cases h5
   rw[pp];exact h6 j u hu
  ·intro v' w' o1 g1 _ _
   refine h v' w' ?_ g1;rw[bZ,ZT];exact o1
def Gs(W:World)(g:Nat)(v:Value)(bs:List Nat):Prop:=W.heap[g]?=some (.cells #[v] 30 (0,0))/\aC W (g+1) v bs
theorem Gs.lt{W:World}{g:Nat}{v:Value}{bs:List Nat}(h:Gs W g v bs):g<W.heap.size:=(Array.getElem?_eq_some_iff.1 h.1).1
theorem Gs.kept{W W':World}{g:Nat}{v:Value}{bs:List Nat}(h:Gs W g v bs)(hb:Below W.heap.size W W'):Gs W' g v bs:=⟨(hb.block g h.lt).trans h.1,h.2.kept hb⟩
def TY(w:World)(g:Nat)(v:Value)(bs:List Nat)(e:Ending)(w':World):Prop :=
 e=.returned (.tuple #[])/\(∃ v',Gs w' g v' bs)/\Below g w w'/\∀ k,k<w.heap.size->k≠g->v.ownBlock≠some k->w'.heap[k]?=w.heap[k]?
def jm(w:World)(g:Nat)(bs:List Nat)(e:Ending)(w':World):Prop:=e=.returned (.tuple #[])/\(∃ v',Gs w' g v' bs)/\Below g w w'
theorem eU{w:World}{g:Nat}{v vp:Value}{bs ps:List Nat}(h:Gs w g v bs)(hp:Sv w vp (aE .u8 ps))(hl:bs.length+ps.length<=1000000) :
  Calls Tryz.prog 168 #[vp,.pointer (some ⟨g,0,none⟩)] w (TY w g v (bs++ps)):=by
 have aB:=h.lt;have HG:=ae h;have HP:=ae hp;have hc:w.cell? ⟨g,0,none⟩=some v:=by rw[ax h.1];rfl
 have hfz:w.frozen? ⟨g,0,none⟩=false:=by simp[World.frozen?,h.1]
 clear h hp;go_enter Tryz.func168,Tryz.ntmps168
 go_wp2_with (first | (at_builtin;refine sG rfl _ _ rfl (g+1) _ _ bs ps rfl HG.out.2 rfl HP.out ?c1 ?c2 ?_))
 case c1=>omega
 case c2=>omega
 intro v' w1 o1 g1
 have fO:some g≠v.ownBlock:=fun e=>by
  have:=(HG.out.2.lt g e.symm).1;omega
 have hh:w1.heap[g]?=some (.cells #[v] 30 (0,0)):=(g1.block g aB fO).trans HG.out.1;have lp:w1.cell? ⟨g,0,none⟩=some v:=by rw[ax hh];rfl
 have hfz1:w1.frozen? ⟨g,0,none⟩=false:=by simp[World.frozen?,hh]
 obtain⟨a1,c1,rfl⟩:=o1.len;have fA:=ae o1;have sX:=ae g1;have HH:=ae hh;clear o1 g1 hh hc hfz;go_wp2_with fail;go_end0
 have Hy:=cM HH.out 0 (.slice a1 (bs++ps).length c1);rw[← ZT];refine⟨rfl,⟨_,Hy,?_⟩,?_,?_⟩
 ·have:=Fr.own (p:=g) ((Fr.refl g w1.heap.size w1).set 0 (.slice a1 (bs++ps).length c1)) fA.out (by omega)
  exact this
 ·exact((ZQ g w).grown sX.out (by omega) (fun k hk=>by have:=(HG.out.2.lt k hk).1;omega)).setCell (ZR _) _
 ·intro k hk hkg hkv
  rw[Below.heap_setCell _ _ _ _ hkg];exact sX.out.block k hk (fun e=>hkv e.symm)
theorem Qh{w:World}{p q:Value}{bs:List Nat}
  (H:∀ W,Gs W w.heap.size (.slice none 0 0) []->Below w.heap.size w W->Calls Tryz.prog 124 #[.func (.func 168) #[] #[.pointer (some ⟨w.heap.size,0,none⟩)],p,q] W (jm W w.heap.size bs)) :
  Calls Tryz.prog 123 #[.func (.func 124) #[] #[p,q]] w (du w bs):=by
 have HH:=ae H;clear H;go_enter Tryz.func123,Tryz.ntmps123
 go_wp2_with fail;refine(HH.out _ ?g1 ?g2).mono ?_
 case g1=>exact⟨heap_alloc_new _ _,aC.nil _ _⟩
 case g2=>exact ak _ _
 rintro e w1 ⟨rfl,⟨v1,eQ⟩,aG⟩;have lp:w1.cell? ⟨w.heap.size,0,none⟩=some v1:=by rw[ax eQ.1];rfl
 have sX:=ae eQ;have aQ:=ae ((ak w (.cells #[.slice none 0 0] 30)).trans aG);clear eQ aG;go_wp2_with fail;go_ret
 exact⟨⟨_,rfl,sX.out.2.low (by omega)⟩,aQ.out⟩
theorem Qi{w:World}{p:Value}{bs:List Nat}
  (H:∀ W,Gs W w.heap.size (.slice none 0 0) []->Below w.heap.size w W->Calls Tryz.prog 205 #[.func (.func 168) #[] #[.pointer (some ⟨w.heap.size,0,none⟩)],p] W (jm W w.heap.size bs)) :
  Calls Tryz.prog 123 #[.func (.func 205) #[] #[p]] w (du w bs):=by
 have HH:=ae H;clear H;go_enter Tryz.func123,Tryz.ntmps123
 go_wp2_with fail;refine(HH.out _ ?g1 ?g2).mono ?_
 case g1=>exact⟨heap_alloc_new _ _,aC.nil _ _⟩
 case g2=>exact ak _ _
 rintro e w1 ⟨rfl,⟨v1,eQ⟩,aG⟩;have lp:w1.cell? ⟨w.heap.size,0,none⟩=some v1:=by rw[ax eQ.1];rfl
 have sX:=ae eQ;have aQ:=ae ((ak w (.cells #[.slice none 0 0] 30)).trans aG);clear eQ aG;go_wp2_with fail;go_ret
 exact⟨⟨_,rfl,sX.out.2.low (by omega)⟩,aQ.out⟩
theorem Qj{w:World}{p q:Value}{bs:List Nat}
  (H:∀ W,Gs W w.heap.size (.slice none 0 0) []->Below w.heap.size w W->Calls Tryz.prog 210 #[.func (.func 168) #[] #[.pointer (some ⟨w.heap.size,0,none⟩)],p,q] W (jm W w.heap.size bs)) :
  Calls Tryz.prog 123 #[.func (.func 210) #[] #[p,q]] w (du w bs):=by
 have HH:=ae H;clear H;go_enter Tryz.func123,Tryz.ntmps123
 go_wp2_with fail;refine(HH.out _ ?g1 ?g2).mono ?_
 case g1=>exact⟨heap_alloc_new _ _,aC.nil _ _⟩
 case g2=>exact ak _ _
 rintro e w1 ⟨rfl,⟨v1,eQ⟩,aG⟩;have lp:w1.cell? ⟨w.heap.size,0,none⟩=some v1:=by rw[ax eQ.1];rfl
 have sX:=ae eQ;have aQ:=ae ((ak w (.cells #[.slice none 0 0] 30)).trans aG);clear eQ aG;go_wp2_with fail;go_ret
 exact⟨⟨_,rfl,sX.out.2.low (by omega)⟩,aQ.out⟩
theorem Ls{w w':World}{B e size n g cap:Nat}{xs:List Value}(h:w.ownsRow B e size (.slice (some ⟨g,0,none⟩) n cap) n xs)(hb:w'.heap[g]?=w.heap[g]?):w'.ownsRow B e size (.slice (some ⟨g,0,none⟩) n cap) n xs:=by
 obtain⟨h0,h | ⟨g',cap',cur,h1,h2,h3,h4⟩⟩:=h
 ·exact⟨h0,Or.inl h⟩
 ·cases h1
  exact⟨h0,Or.inr ⟨g,cap,cur,rfl,h2,hb.trans h3,h4⟩⟩
theorem jz{l:List (Nat×Int×List Nat)}{j:Nat}(h:j<l.length):bJ (l.take (j+1))=bJ (l.take j)++[if l[j].1=0 then 0 else 1]:=by
 unfold bJ;rw[Z5 h,Z8];rfl
theorem Du{l:List (Nat×Int×List Nat)}(h:¬ 0∈bJ l):dD l=[0]:=if_neg h
theorem zp{l:List (Nat×Int×List Nat)}(h:0∈bJ l):dD l=[1]++be (bJ l) 1:=if_pos h
theorem jn{l:List Nat}(h:∀ x∈l,x<2)(hl:l.length<=256):(be l 1).length<=32:=by
 rw[eF h hl];unfold by8;omega
theorem AK{w:World}{g:Nat}{v vl:Value}{bs:List Nat}{l:List (Nat×Int×List Nat)}(hg:Gs w g v bs)(BO:bs.length<=100000)(hs:Sv w vl (aI l))(hl:l.length<=256) :
  Calls Tryz.prog 125 #[.func (.func 168) #[] #[.pointer (some ⟨g,0,none⟩)],vl] w (jm w g (bs++dD l)):=by
 obtain⟨i0,hi,ce,hz1',bm⟩:=info_parts pt;have HG:=ae hg;have BB:=hg.lt;have HS:=ae hs;obtain⟨a,cap,rfl,aX,bw⟩:=hs.form1;rw[aF]at *;have hcm':cap<=9223372036854775807:=by unfold maxLen at bw;omega
 have H2:=ae (dU l);have Zt:=ae (jn (dU l) (by rw[bg];exact hl));have HN:=ae (Du (l:=l));have HY:=ae (zp (l:=l));obtain⟨D,hD⟩:∃ D,bJ l=D:=⟨_,rfl⟩;have hDl:D.length=l.length:=by rw[← hD,bg]
 have Mz:Hid (∀ k (h:k<l.length),D[k]?=some (if l[k].1=0 then 0 else 1)):=ae (fun k h=>by rw[← hD];simp[bJ,h]);rw[hD]at H2 Zt HN HY;have HD:=ae hD;have kF:=ae hDl;clear hs bw hD hDl hg;go_enter Tryz.func125,Tryz.ntmps125
 go_wp2_with (first | (refine wpList_make_full _ rfl _ _ 142 rfl w.heap.size 92 i0 (.int .u64 0) 1 Tryz.underlying142 hi ce hz1' .i64 .i64 _ _ l.length rfl rfl ?m1 ?m2 ?m3 ?m4 ?m5 ?_))
 case m1=>rfl
 case m2=>rfl
 case m3=>rw[bm];omega
 case m4=>unfold maxLen;omega
 case m5=>omega
 intro w4 gD iL;have bv:Below w.heap.size w w4:=(ZQ _ _).grown iL (ZR _) (fun k hk=>by cases hk)
 have ho4':w4.ownsRow w.heap.size 92 1 (.slice (some ⟨w.heap.size,0,none⟩) l.length l.length) l.length (aE .u64 (fill D 0)):=by
  rw[nZ,kF.out,← jS];simpa using gD
 have eP:=ae ho4';have b9:=ae bv;clear gD iL bv ho4';go_wp2_with fail;go_loopw [5,13] (fun o i wr=>∃ k:Nat,o=.bool (decide (0∈bJ (l.take k)))/\i=.int .i64 (k:Int)/\k<=l.length/\wr.ownsRow w.heap.size 92 1 (.slice (some ⟨w.heap.size,0,none⟩) l.length l.length) l.length (aE .u64 (fill D k))/\Below w.heap.size w wr) (fun _ i _=>l.length-(intOf i).toNat)
 case atStart=>exact⟨0,rfl,rfl,by omega,eP.out,b9.out⟩
 case round =>
  obtain⟨k,rfl,rfl,hk,how,ay⟩:=hrel;have HB:=ae ay;have HO:=ae how;have bO:=ay.size;clear ay how;by_cases aB:k<l.length
  ·have hkD:k<D.length:=by rw[kF.out];exact aB
   have hval:D[k]=if l[k].1=0 then 0 else 1:=by
    have:=Mz.out k aB;rw[List.getElem?_eq_getElem hkD]at this;exact Option.some.inj this
   obtain⟨b,off,rfl,hb,dP⟩:=(HS.out.kept HB.out).at1 (cK aB);have jM:k<(fill D k).length:=by rw[kN (by omega)];exact hkD
   have sV:=ae (qw hkD);have rx:=ae (jz aB);have HVF:=ae (lz l[k]);have HVN:=ae (rP l[k]);have fT:=HO.out;have Eu:=(fT.cellAt k (by omega)).trans (bR jM);have Ev:=fT.frozenAt k;have hST:=fT.stored k (.int .u64 (D[k]:Int));rw[jY,sV.out]at hST;have cP:=ae hST;have Mk:=(fT.lt w.heap.size rfl).2;clear hST fT;generalize l[k]=c at *;generalize (fill D k)[k]=y at *;generalize D[k]=z at *;by_cases h0:c.1=0
   ·rw[HVN.out h0]at dP
    rw[if_pos h0]at hval rx;subst hval;have HFl:Hid (decide (0∈bJ (l.take (k+1)))=true):=ae (decide_eq_true (by rw[rx.out];simp));clear HVF HVN h0;have Mp:=ae (wE false);generalize decide (0∈bJ (l.take k))=fl at *;cases fl
    ·go_wp2_with fail
     refine(Mp.out _).mono ?_;rintro e w5 ⟨rfl,rfl⟩;go_wp2_with fail;go_roundw
     case rel=>exact⟨k+1,by rw[HFl.out],by go_num,by omega,cP.out.1,cL HB.out (ZR _) _⟩
     case measure=>simp[intOf];omega
    ·go_wp2_with fail
     refine(Mp.out _).mono ?_;rintro e w5 ⟨rfl,rfl⟩;go_wp2_with fail;go_roundw
     case rel=>exact⟨k+1,by rw[HFl.out],by go_num,by omega,cP.out.1,cL HB.out (ZR _) _⟩
     case measure=>simp[intOf];omega
   ·obtain⟨tt,uu,hvv⟩:=HVF.out h0
    rw[hvv]at dP;rw[if_neg h0]at hval rx;subst hval;have HFl:Hid (decide (0∈bJ (l.take (k+1)))=decide (0∈bJ (l.take k))):=ae (by rw[rx.out];simp);clear HVF HVN h0 hvv;have Mp:=ae (wE true);generalize decide (0∈bJ (l.take k))=fl at *;cases fl
    ·go_wp2_with fail
     refine(Mp.out _).mono ?_;rintro e w5 ⟨rfl,rfl⟩;go_wp2_with fail;go_roundw
     case rel=>exact⟨k+1,by rw[HFl.out],by go_num,by omega,cP.out.1,cL HB.out (ZR _) _⟩
     case measure=>simp[intOf];omega
    ·go_wp2_with fail
     refine(Mp.out _).mono ?_;rintro e w5 ⟨rfl,rfl⟩;go_wp2_with fail;go_roundw
     case rel=>exact⟨k+1,by rw[HFl.out],by go_num,by omega,cP.out.1,cL HB.out (ZR _) _⟩
     case measure=>simp[intOf];omega
  ·obtain rfl:k=l.length:=by omega
   have e:fill D l.length=D:=by
    have:=qv D;rwa[kF.out]at this
   rw[e]at HO;rw[ZY,HD.out];have HGr:=ae (HG.out.kept HB.out);clear e;by_cases h0:0∈D
   ·rw[decide_eq_true h0]
    have Yb:=ae (HY.out h0);have BM:=ae (eU (HGr.out.kept (ak wr (.cells #[.int .u8 1] 5))) (cD wr 1).sv (by simp;omega));have cW:(wr.alloc (.cells #[.int .u8 1] 5)).heap.size=wr.heap.size+1:=ZS _ _;clear HN HY h0;go_wp2_with fail;refine BM.out.mono ?_;rintro e w6 ⟨rfl,⟨v6,J9⟩,dN,RI⟩;have Mk:=(HO.out.lt w.heap.size rfl).2
    have zK:dB w6 w.heap.size (.slice (some ⟨w.heap.size,0,none⟩) l.length l.length) D:=by
     unfold dB;rw[kF.out];refine Ls (bH HO.out (ak wr (.cells #[.int .u8 1] 5))) (RI w.heap.size (by omega) (by omega) (fun e=>?_));have:=(HG.out.2.lt w.heap.size e).2;omega
    have Ew:=dN.size;have kB:=ae J9;have i5:=ae ((HB.out.mono (jac BB)).trans (((ak wr (.cells #[.int .u8 1] 5)).mono (by omega)).trans dN));have Yc:=ae (zj zK.sv H2.out);clear J9 dN RI zK;go_wp2_with fail;refine Yc.out.mono ?_;rintro e w7 ⟨⟨v7,rfl,UF⟩,jd⟩;have HP7:=ae (eU (kB.out.kept jd) UF.sv (by have:=Zt.out;simp;omega));have ia:=ae (i5.out.trans (jd.mono (by omega)));clear UF jd;go_wp2_with fail;refine HP7.out.mono ?_;rintro e w8 ⟨rfl,⟨v8,Yd⟩,kA,_⟩;rw[Z4]at Yd;have Zr:=ae Yd;have p6:=ae (ia.out.trans kA);clear Yd kA;go_wp2_with fail;go_end0
    rw[Yb.out];exact⟨rfl,⟨_,Zr.out⟩,p6.out⟩
   ·rw[decide_eq_false h0]
    have Yb:=ae (HN.out h0);have BM:=ae (eU (HGr.out.kept (ak wr (.cells #[.int .u8 0] 5))) (cD wr 0).sv (by simp;omega));have cW:(wr.alloc (.cells #[.int .u8 0] 5)).heap.size=wr.heap.size+1:=ZS _ _;clear HN HY h0;go_wp2_with fail;refine BM.out.mono ?_;rintro e w6 ⟨rfl,⟨v6,J9⟩,dN,RI⟩;have kB:=ae J9;have i5:=ae ((HB.out.mono (jac BB)).trans (((ak wr (.cells #[.int .u8 0] 5)).mono (by omega)).trans dN));clear J9 dN RI;go_wp2_with fail;go_end0
    rw[Yb.out];exact⟨rfl,⟨_,kB.out⟩,i5.out⟩
def dv(z:Value)(l:List Value)(i:Nat):List Value:=l.take i++List.replicate (l.length-i) z
theorem mw(z:Value)(l:List Value):dv z l 0=List.replicate l.length z:=by simp[dv]
theorem oq(z:Value)(l:List Value):dv z l l.length=l:=by simp[dv]
theorem ir{z:Value}{l:List Value}{i:Nat}(h:i<=l.length):(dv z l i).length=l.length:=by simp[dv];omega
theorem lU{z:Value}{l:List Value}{i:Nat}(h:i<l.length):(dv z l i).set i l[i]=dv z l (i+1):=by
 unfold dv
 rw[List.set_append_right _ _ (by simp;omega),ZX,jaJ (by omega),ja9,show l.length-i=(l.length-(i+1))+1 by omega,
  List.replicate_succ,Z0,Z5 h,Z4]
 rfl
theorem Sv.keptB{W W':World}{B:Nat}{v:Value}{xs:List Value}(h:Sv W v xs)(hv:∀ k,v.ownBlock=some k->k<B)(hb:Below B W W'):Sv W' v xs:=by
 obtain⟨a,cap,rfl,h1,h2,h3,h4⟩:=h;refine⟨a,cap,rfl,h1,h2,h3,fun h0=>?_⟩;obtain⟨b,off,rfl,h5,h6⟩:=h4 h0;have hb':b<B:=hv b rfl;exact⟨b,off,rfl,Z9 h5 hb.size,fun j x hj=>(hb.cell (p:=⟨b,off+j,none⟩) hb').trans (h6 j x hj)⟩
theorem sH(W:World)(o:Obj):Below W.heap.size W (W.drew.alloc o):=by
 have h1:Below W.heap.size W W.drew:=⟨rfl,rfl,rfl,ZR _,fun _ _=>rfl⟩;exact h1.alloc (ZR _) _
theorem Gk{s:List Nat}(hb:Bs s)(hl:s.length<=140737488355328)(W:World):∃ g cap W',(convert 9 30 (.string (am s))).run Tryz.prog W=.ok (.slice (some ⟨g,0,none⟩) s.length cap) W'/\Sv W' (.slice (some ⟨g,0,none⟩) s.length cap) (aE .u8 s)/\Below W.heap.size W W'/\W'.heap.size=W.heap.size+1:=by
 have hr:=run_bytes_of_string (P:=Tryz.prog) W 9 30 5 (am s) Tryz.underlying9 Tryz.underlying30 Tryz.underlying5;rw[bi]at hr;refine⟨_,_,_,hr,?_,sH _ _,?_⟩
 ·have gJ:=grownCap_ge W s.length 0 5
  have oH:=grownCap_le_maxLen W s.length 0 5 (by unfold maxLen;omega);refine⟨_,_,by rw[ap],by rw[ap];exact gJ,oH,fun e=>by(cases e),fun h0=>⟨_,_,rfl,by rw[ZS];show W.heap.size<W.heap.size+1;omega,fun j x hj=>?_⟩⟩
  have hj':j<s.length:=by
   have:=(List.getElem?_eq_some_iff.1 hj).1;rwa[ap]at this
  rw[bR hj']at hj;have hh:(W.drew.alloc (.cells (bytesRow (am s) (grownCap W s.length 0 5)) 5 ((bytesRow (am s) (grownCap W s.length 0 5)).size,(bytesRow (am s) (grownCap W s.length 0 5)).size+1))).heap[W.heap.size]?=some (.cells (bytesRow (am s) (grownCap W s.length 0 5)) 5 ((bytesRow (am s) (grownCap W s.length 0 5)).size,(bytesRow (am s) (grownCap W s.length 0 5)).size+1)):=heap_alloc_new W.drew _;rw[jaf,ax hh,← hj];unfold bytesRow am;have hx:s[j]<256:=hb _ (ZV hj');rw[Array.getElem?_append_left (by simpa using hj')];simp[hj',jaA hx]
 ·rw[ZS]
  rfl
theorem gx{l:List Int}(hi:Is l)(hl:l.length<=256):(cN l).length<=5131:=(jR hi hl).1
theorem Dv{w:World}{v:Value}{l:List Int}(hs:Sv w v (aJ l))(hl:l.length<=256)(hi:Is l):Calls Tryz.prog 231 #[v] w (du w (cnt l)):=by
 have HB:=ae (sy hs hl hi);have bQ:=gx hi hl;have mP:Hid (cnt l=uv (cN l).length++cN l):=rfl;clear hs hi;generalize cnt l=cn at *;generalize cN l=bs at *;have mY:=bI (n:=bs.length) (by omega);have HP:=ae (dG bs.length (by omega));go_enter Tryz.func231,Tryz.ntmps231
 go_wp2_with fail;refine HB.out.mono ?_;rintro e w1 ⟨⟨v1,rfl,eG⟩,aG⟩;have fA:=ae eG;have aQ:=ae aG;have cW:=aG.size;obtain⟨a1,c1,rfl⟩:=eG.len;clear eG aG;go_wp2_with fail;refine(HP.out _).mono ?_;rintro e w2 ⟨⟨v2,rfl,fq⟩,aD⟩;have dr:=ae (fq.low cW);have aN:=ae aD;have bm:=aD.size;clear fq aD;go_wp2_with (first | (at_builtin;refine ar rfl _ _ rfl w.heap.size _ _ (uv bs.length) bs rfl dr.out rfl (fA.out.kept aN.out).sv ?c1 ?c2 ?_))
 case c1=>omega
 case c2=>omega
 intro v4 w4 o4 b4;have eP:=ae o4;have b9:=ae ((aQ.out.trans (aN.out.mono cW)).trans b4);clear o4 b4;go_wp2_with fail;go_ret
 rw[mP.out];exact⟨⟨_,rfl,eP.out⟩,b9.out⟩
theorem kS{l:List (List Nat)}{k:Nat}(h:k<l.length):(l.take (k+1)).flatten=(l.take k).flatten++l[k]:=by
 rw[Z5 h,jbk];simp
theorem iV{l:List (List Nat)}(ht:Ts l)(hl:l.length<=256)(k:Nat):(l.take k).flatten.length<=16384:=by
 have h:=(nU (l:=l.take k) fun s hs=>ht s (jaw hs)).1;rw[ZX]at h;omega
theorem tB{w:World}{g:Nat}{v vl:Value}{bs:List Nat}{l:List (List Nat)}(hg:Gs w g v bs)(BO:bs.length<=100000)(hs:Sv w vl (cy l))(fU:∀ k,vl.ownBlock=some k->k<g)(hl:l.length<=256)(ht:Ts l) :
  Calls Tryz.prog 206 #[.func (.func 168) #[] #[.pointer (some ⟨g,0,none⟩)],vl] w (jm w g (bs++fx l)):=by
 obtain⟨i0,hi,ce,hz1',bm⟩:=info_parts yY;have HG:=ae hg;have BB:=hg.lt;have HS:=ae hs;have HT:=ae ht;have rB:=ae fU;obtain⟨a,cap,rfl,aX,bw⟩:=hs.form1;rw[dE]at *;have hcm':cap<=9223372036854775807:=by unfold maxLen at bw;omega
 have VX:Hid (fx l=cnt (dY l)++l.flatten):=rfl;have J2:=ae (fun k=>iV ht hl k);obtain⟨D,hD⟩:∃ D,dY l=D:=⟨_,rfl⟩;have hDl:D.length=l.length:=by rw[← hD,bG]
 have HDI:Hid (Is D):=ae (hD ▸ gQ ht);have Mz:Hid (∀ k (h:k<l.length),(aJ D)[k]?=some (.int .i64 ((am l[k]).size:Int))):=ae (fun k h=>by rw[← hD];simp[dY,aJ,h,bi]);rw[hD]at VX;have kF:=ae hDl
 have eO:(cnt D).length<=5141:=by
  have h1:=gx HDI.out (by omega);have h2:=bI (n:=(cN D).length) (by omega);unfold cnt;rw[ZT];omega
 clear hs bw hD hDl hg ht fU;go_enter Tryz.func206,Tryz.ntmps206
 go_wp2_with (first | (refine wpList_make_full _ rfl _ _ 143 rfl w.heap.size 2 i0 (.int .i64 0) 1 Tryz.underlying143 hi ce hz1' .i64 .i64 _ _ l.length rfl rfl ?m1 ?m2 ?m3 ?m4 ?m5 ?_))
 case m1=>rfl
 case m2=>rfl
 case m3=>rw[bm];omega
 case m4=>unfold maxLen;omega
 case m5=>omega
 intro w4 gD iL;have bv:Below w.heap.size w w4:=(ZQ _ _).grown iL (ZR _) (fun k hk=>by cases hk)
 have ho4':w4.ownsRow w.heap.size 2 1 (.slice (some ⟨w.heap.size,0,none⟩) l.length l.length) l.length (dv (.int .i64 0) (aJ D) 0):=by
  rw[mw,cm,kF.out,← toList_madeCells_one];simpa using gD
 have eP:=ae ho4';have b9:=ae bv;clear gD iL bv ho4';go_wp2_with fail;go_loopw [14] (fun i wr=>∃ k:Nat,i=.int .i64 (k:Int)/\k<=l.length/\wr.ownsRow w.heap.size 2 1 (.slice (some ⟨w.heap.size,0,none⟩) l.length l.length) l.length (dv (.int .i64 0) (aJ D) k)/\Below w.heap.size w wr) (fun i _=>l.length-(intOf i).toNat)
 case atStart=>exact⟨0,rfl,by omega,eP.out,b9.out⟩
 case round =>
  obtain⟨k,rfl,hk,how,ay⟩:=hrel;have HB:=ae ay;have HO:=ae how;have bO:=ay.size;clear ay how;by_cases aB:k<l.length
  ·have hkD:k<(aJ D).length:=by rw[cm,kF.out];exact aB
   have hval:(aJ D)[k]=.int .i64 ((am l[k]).size:Int):=by
    have:=Mz.out k aB;rw[List.getElem?_eq_getElem hkD]at this;exact Option.some.inj this
   obtain⟨b,off,rfl,hb,dP⟩:=(HS.out.kept HB.out).at1 (cJ aB);have jM:k<(dv (.int .i64 0) (aJ D) k).length:=by rw[ir (by omega)];exact hkD
   have sV:=ae (lU (z:=.int .i64 0) hkD);have fT:=HO.out;have Eu:=(fT.cellAt k (by omega)).trans (List.getElem?_eq_getElem jM);have Ev:=fT.frozenAt k;have hST:=fT.stored k (.int .i64 ((am l[k]).size:Int));rw[← hval,sV.out]at hST;rw[hval]at hST;have cP:=ae hST;have Mk:=(fT.lt w.heap.size rfl).2;have jq:(am l[k]).size<=64:=by rw[bi];exact(HT.out _ (ZV aB)).1
   rw[ek]at dP;clear hST fT hval;generalize (dv (.int .i64 0) (aJ D) k)[k]=y at *;generalize am l[k]=S at *;go_wp2_with fail;go_roundw
   case rel=>exact⟨k+1,by go_num,by omega,cP.out.1,cL HB.out (ZR _) _⟩
   case measure=>simp[intOf];omega
  ·obtain rfl:k=l.length:=by omega
   have e:dv (.int .i64 0) (aJ D) l.length=aJ D:=by
    have:=oq (.int .i64 0) (aJ D);rwa[cm,kF.out]at this
   rw[e]at HO
   have ho':br wr w.heap.size (.slice (some ⟨w.heap.size,0,none⟩) l.length l.length) D:=by
    unfold br;rw[kF.out];exact HO.out
   have HCT:=ae (Dv ho'.sv (by rw[kF.out];exact hl) HDI.out);have HGr:=ae (HG.out.kept HB.out);clear e ho' HO;go_wp2_with fail;refine HCT.out.mono ?_;rintro e w6 ⟨⟨v6,rfl,zK⟩,dN⟩;have Yc:=ae (eU (HGr.out.kept dN) zK.sv (by omega));have i5:=ae (HB.out.trans (dN.mono bO));have Ew:=dN.size;clear zK dN;go_wp2_with fail;refine Yc.out.mono ?_;rintro e w7 ⟨rfl,⟨v7,hg7⟩,jd,_⟩;have HG7:=ae hg7;have ia:=ae ((i5.out.mono (jac BB)).trans jd);clear hg7 jd;go_wp2_with fail;go_loopw [31] (fun i wr=>∃ k:Nat,i=.int .i64 (k:Int)/\k<=l.length/\(∃ v',Gs wr g v' (bs++cnt D++(l.take k).flatten))/\Below g w wr) (fun i _=>l.length-(intOf i).toNat)
   case atStart=>exact⟨0,rfl,by omega,⟨v7,by simpa using HG7.out⟩,ia.out⟩
   case round =>
    obtain⟨k,rfl,hk,⟨vq,hgq⟩,ur⟩:=hrel;have HGQ:=ae hgq;have oJ:=ae ur;have yg:=ur.size;clear hgq ur;by_cases aB:k<l.length
    ·obtain⟨b,off,rfl,hb,dP⟩:=(HS.out.keptB rB.out oJ.out).at1 (cJ aB)
     obtain⟨Hc,UB⟩:=HT.out _ (ZV aB);obtain⟨gc,cc,wc,uk,Ka,hbc,hzc⟩:=Gk UB (by omega) wr;rw[ek]at dP;have SZ:=ae (kS aB);have jM:=J2.out k;have HPQ:=ae (eU (HGQ.out.kept hbc) Ka (by simp only[ZT];omega));have HBC:=ae (oJ.out.trans (hbc.mono (ZZ (jac HGQ.out.lt) (ZR _))));have fM:g<wr.heap.size:=HGQ.out.lt;clear Ka hbc UB Hc;generalize am l[k]=S at *;generalize l[k]=x at *;go_wp2_with fail;refine HPQ.out.mono ?_;rintro e w8 ⟨rfl,⟨v8,Yd⟩,kA,_⟩;rw[Z4,← SZ.out]at Yd;have Zr:=ae Yd;have p6:=ae (HBC.out.trans kA);clear Yd kA;go_wp2_with fail;go_roundw
     case rel=>exact⟨k+1,by go_num,by omega,⟨_,Zr.out⟩,p6.out⟩
     case measure=>simp[intOf];omega
    ·obtain rfl:k=l.length:=by omega
     rw[ZY,Z4,← VX.out]at HGQ;go_wp2_with fail;go_end0
     exact⟨rfl,⟨_,HGQ.out⟩,oJ.out⟩
end Go.Proofs.YtpljdjmpamjkhaaGreatDoor
