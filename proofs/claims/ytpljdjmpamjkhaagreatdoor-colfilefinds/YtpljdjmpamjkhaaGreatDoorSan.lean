import Derived.Test.YtpljdjmpamjkhaaGreatDoorSal
set_option linter.all false
set_option maxRecDepth 100000
set_option maxHeartbeats 4000000
namespace Go.Proofs.YtpljdjmpamjkhaaGreatDoor
open Tryz
open Go.RowKit Go.Lib
def tv{w:World}{ops:Array Oper}{rest:List Oper}{o:Oper}{a:Act}{Q:Exit->Act->World->Prop}(ef:o.guard=none)(s x:Operand)
  (ho:o.op=.call { callee:=.builtin .append,args:=#[s,x],argTypes:=#[30,30] })
  (base:Nat) (v vx:Value) (l0 l:List Nat) (hs:a.eval s=v) (ax:aM w base v l0) (hx:a.eval x=vx) (eg:Sv w vx (aA .u8 l))
  (hbytes:l0.length+l.length<=140737488355328) (aF:base<=w.heap.size)
  (h:∀ v' w',aM w' base v' (l0++l)->w.grownBy w' v.ownBlock->wpList prog ops Q rest (a.put o.dst v') w') :
  wpList prog ops Q (o::rest) a w:=by
 obtain⟨i0,hi,bR,hz1',aX⟩:=jeT nl;unfold aM at *;obtain⟨ad,cap,rfl,h1,h2,h3,h4⟩:=eg;rw[am]at *;cases ad with
 | none =>
  have hc:=h3 rfl;subst hc;have hl:l=[]:=jeW (by omega);subst hl;refine wpList_plain ef λK hK=>?_
  have hr:=jgb (P:=prog) (w:=w) base 30 o.type 5 i0 1 underlying30 hi v l0.length (aA .u8 l0) ax;unfold Oper.wp execOp;simp only[ho,resolve,invoke,builtin,Sem.run_bind,Sem.run_pure,Result.andThen_ok,jfN,je4,jfr,hs,hx,hr,jeZ];refine hK _ _ (h v w ?_ ⟨rfl,rfl,rfl,jeA _,λ_ _ _=>rfl⟩);rw[jeS];exact ax
 | some ad =>
  refine jfw (w:=w) ef s x 30 ho base 5 i0 (.int .u8 0) 1 1 underlying30 hi bR hz1' aX rfl (by decide) v l0.length (aA .u8 l0) hs ax ad l.length cap (aA .u8 l) hx (by rw[am];omega) ?_ (jM _ _) (by unfold maxLen;omega) (by omega) aF ?_
  ·intro j u hu
   have hj:j<l.length:=by
    have:=(List.getElem?_eq_some_iff.1 hu).1;rwa[am]at this
   obtain⟨b,off,h5,_,h6⟩:=h4 (by omega);cases h5
   rw[kP];exact h6 j u hu
  ·intro v' w' o1 g1 _ _
   refine h v' w' ?_ g1;rw[ek,jeC];exact o1
def Gs(W:World)(g:Nat)(v:Value)(bs:List Nat):Prop:=W.heap[g]?=some (.cells #[v] 30 (0,0))/\aM W (g+1) v bs
def Gs.lt{W:World}{g:Nat}{v:Value}{bs:List Nat}(h:Gs W g v bs):g<W.heap.size:=(Array.getElem?_eq_some_iff.1 h.1).1
def Gs.kept{W W':World}{g:Nat}{v:Value}{bs:List Nat}(h:Gs W g v bs)(hb:jgu W W'):Gs W' g v bs:=⟨(hb.block g h.lt).trans h.1,h.2.kept hb⟩
def Zi(w:World)(g:Nat)(v:Value)(bs:List Nat)(e:Ending)(w':World):Prop :=
 e=.returned (.tuple #[])/\(∃ v',Gs w' g v' bs)/\Below g w w'/\∀ k,k<w.heap.size->k≠g->v.ownBlock≠some k->w'.heap[k]?=w.heap[k]?
def jr(w:World)(g:Nat)(bs:List Nat)(e:Ending)(w':World):Prop:=e=.returned (.tuple #[])/\(∃ v',Gs w' g v' bs)/\Below g w w'
def eH{w:World}{g:Nat}{v vp:Value}{bs ps:List Nat}(h:Gs w g v bs)(hp:Sv w vp (aA .u8 ps))(hl:bs.length+ps.length<=1000000) :
  Calls prog 168 #[vp,.pointer (some ⟨g,0,none⟩)] w (Zi w g v (bs++ps)):=by
 have ar:=h.lt;have HG:=ae h;have HP:=ae hp;have hc:w.cell? ⟨g,0,none⟩=some v:=by rw[an h.1];rfl
 have hfz:w.frozen? ⟨g,0,none⟩=false:=by simp[World.frozen?,h.1]
 clear h hp;go_enter func168,ntmps168
 go_wp2_with (first | (at_builtin;refine tv rfl _ _ rfl (g+1) _ _ bs ps rfl HG.o.2 rfl HP.o ?c1 ?c2 ?_))
 case c1=>omega
 case c2=>omega
 intro v' w1 o1 g1
 have dC:some g≠v.ownBlock:=λe=>by
  have:=(HG.o.2.lt g e.symm).1;omega
 have hh:w1.heap[g]?=some (.cells #[v] 30 (0,0)):=(g1.block g ar dC).trans HG.o.1;have ju:w1.cell? ⟨g,0,none⟩=some v:=by rw[an hh];rfl
 have hfz1:w1.frozen? ⟨g,0,none⟩=false:=by simp[World.frozen?,hh]
 obtain⟨a1,c1,rfl⟩:=o1.len;have fX:=ae o1;have tR:=ae g1;have HH:=ae hh;clear o1 g1 hh hc hfz;go_wp2_with fail;go_end0
 have zf:=cQ HH.o 0 (.slice a1 (bs++ps).length c1);rw[<- jeC];refine⟨rfl,⟨_,zf,?_⟩,?_,?_⟩
 ·have:=Fr.own (p:=g) ((Fr.refl g w1.heap.size w1).set 0 (.slice a1 (bs++ps).length c1)) fX.o (by omega)
  exact this
 ·exact((jez g w).grown tR.o (by omega) (λk hk=>by have:=(HG.o.2.lt k hk).1;omega)).setCell (jeA _) _
 ·intro k hk hkg hkv
  rw[Below.heap_setCell _ _ _ _ hkg];exact tR.o.block k hk (λe=>hkv e.symm)
def UN{w:World}{p q:Value}{bs:List Nat}
  (H:∀ W,Gs W w.heap.size (.slice none 0 0) []->jgu w W->Calls prog 124 #[.func (.func 168) #[] #[.pointer (some ⟨w.heap.size,0,none⟩)],p,q] W (jr W w.heap.size bs)) :
  Calls prog 123 #[.func (.func 124) #[] #[p,q]] w (ee w bs):=by
 have HH:=ae H;clear H;go_enter func123,ntmps123
 go_wp2_with fail;refine(HH.o _ ?g1 ?g2).mono ?_
 case g1=>exact⟨je2 _ _,aM.nil _ _⟩
 case g2=>exact aj _ _
 rintro e w1 ⟨rfl,⟨v1,dP⟩,az⟩;have ju:w1.cell? ⟨w.heap.size,0,none⟩=some v1:=by rw[an dP.1];rfl
 have tR:=ae dP;have aL:=ae ((aj w (.cells #[.slice none 0 0] 30)).trans az);clear dP az;go_wp2_with fail;go_ret
 exact⟨⟨_,rfl,tR.o.2.low (by omega)⟩,aL.o⟩
def UO{w:World}{p:Value}{bs:List Nat}
  (H:∀ W,Gs W w.heap.size (.slice none 0 0) []->jgu w W->Calls prog 205 #[.func (.func 168) #[] #[.pointer (some ⟨w.heap.size,0,none⟩)],p] W (jr W w.heap.size bs)) :
  Calls prog 123 #[.func (.func 205) #[] #[p]] w (ee w bs):=by
 have HH:=ae H;clear H;go_enter func123,ntmps123
 go_wp2_with fail;refine(HH.o _ ?g1 ?g2).mono ?_
 case g1=>exact⟨je2 _ _,aM.nil _ _⟩
 case g2=>exact aj _ _
 rintro e w1 ⟨rfl,⟨v1,dP⟩,az⟩;have ju:w1.cell? ⟨w.heap.size,0,none⟩=some v1:=by rw[an dP.1];rfl
 have tR:=ae dP;have aL:=ae ((aj w (.cells #[.slice none 0 0] 30)).trans az);clear dP az;go_wp2_with fail;go_ret
 exact⟨⟨_,rfl,tR.o.2.low (by omega)⟩,aL.o⟩
def UP{w:World}{p q:Value}{bs:List Nat}
  (H:∀ W,Gs W w.heap.size (.slice none 0 0) []->jgu w W->Calls prog 210 #[.func (.func 168) #[] #[.pointer (some ⟨w.heap.size,0,none⟩)],p,q] W (jr W w.heap.size bs)) :
  Calls prog 123 #[.func (.func 210) #[] #[p,q]] w (ee w bs):=by
 have HH:=ae H;clear H;go_enter func123,ntmps123
 go_wp2_with fail;refine(HH.o _ ?g1 ?g2).mono ?_
 case g1=>exact⟨je2 _ _,aM.nil _ _⟩
 case g2=>exact aj _ _
 rintro e w1 ⟨rfl,⟨v1,dP⟩,az⟩;have ju:w1.cell? ⟨w.heap.size,0,none⟩=some v1:=by rw[an dP.1];rfl
 have tR:=ae dP;have aL:=ae ((aj w (.cells #[.slice none 0 0] 30)).trans az);clear dP az;go_wp2_with fail;go_ret
 exact⟨⟨_,rfl,tR.o.2.low (by omega)⟩,aL.o⟩
def PO{w w':World}{B e size n g cap:Nat}{xs:List Value}(h:w.ownsRow B e size (.slice (some ⟨g,0,none⟩) n cap) n xs)(hb:w'.heap[g]?=w.heap[g]?):w'.ownsRow B e size (.slice (some ⟨g,0,none⟩) n cap) n xs:=by
 obtain⟨h0,h | ⟨g',cap',cur,h1,h2,h3,h4⟩⟩:=h
 ·exact⟨h0,Or.inl h⟩
 ·cases h1
  exact⟨h0,Or.inr ⟨g,cap,cur,rfl,h2,hb.trans h3,h4⟩⟩
def vo{l:jgv}{j:Nat}(h:j<l.length):cH (l.take (j+1))=cH (l.take j)++[if l[j].1=0 then 0 else 1]:=by
 unfold cH;rw[jeO h,jeR];rfl
def UQ{l:jgv}(h:¬ 0∈cH l):jH l=[0]:=jex h
def PP{l:jgv}(h:0∈cH l):jH l=[1]++bi (cH l) 1:=jey h
def uE{l:List Nat}(h:∀ x∈l,x<2)(hl:l.length<=256):(bi l 1).length<=32:=by
 rw[em h hl];unfold by8;omega
def Cc{w:World}{g:Nat}{v vl:Value}{bs:List Nat}{l:jgv}(hg:Gs w g v bs)(zb:bs.length<=100000)(hs:Sv w vl (aE l))(hl:l.length<=256) :
  Calls prog 125 #[.func (.func 168) #[] #[.pointer (some ⟨g,0,none⟩)],vl] w (jr w g (bs++jH l)):=by
 obtain⟨i0,hi,bR,hz1',aX⟩:=jeT sQ;have HG:=ae hg;have CO:=hg.lt;have HS:=ae hs;obtain⟨a,cap,rfl,bg,bx⟩:=hs.form1;rw[ay]at *;have hcm':cap<=9223372036854775807:=by unfold maxLen at bx;omega
 have H2:=ae (eL l);have HSH:=ae (uE (eL l) (by rw[bf];exact hl));have HN:=ae (UQ (l:=l));have HY:=ae (PP (l:=l));obtain⟨D,hD⟩:∃ D,cH l=D:=⟨_,rfl⟩;have hDl:D.length=l.length:=by rw[<- hD,bf]
 have WS:jgt (∀ k (h:k<l.length),D[k]?=some (if l[k].1=0 then 0 else 1)):=ae (λk h=>by rw[<- hD];simp[cH,h]);rw[hD]at H2 HSH HN HY;have HD:=ae hD;have mI:=ae hDl;clear hs bx hD hDl hg;go_enter func125,ntmps125
 go_wp2_with (first | (refine jft _ rfl _ _ 142 rfl w.heap.size 92 i0 (.int .u64 0) 1 underlying142 hi bR hz1' .i64 .i64 _ _ l.length rfl rfl ?m1 ?m2 ?m3 ?m4 ?m5 ?_))
 case m1=>rfl
 case m2=>rfl
 case m3=>rw[aX];omega
 case m4=>unfold maxLen;omega
 case m5=>omega
 intro w4 gz iE;have bD:jgu w w4:=(jez _ _).grown iE (jeA _) (λk hk=>by cases hk)
 have ho4':w4.ownsRow w.heap.size 92 1 (.slice (some ⟨w.heap.size,0,none⟩) l.length l.length) l.length (aA .u64 (fill D 0)):=by
  rw[ot,mI.o,<- kf];simpa using gz
 have gT:=ae ho4';have cL:=ae bD;clear gz iE bD ho4';go_wp2_with fail;go_loopw [5,13] (λo i wr=>∃ k:Nat,o=.bool (decide (0∈cH (l.take k)))/\i=.int .i64 (k:Int)/\k<=l.length/\wr.ownsRow w.heap.size 92 1 (.slice (some ⟨w.heap.size,0,none⟩) l.length l.length) l.length (aA .u64 (fill D k))/\jgu w wr) (λ_ i _=>l.length-(intOf i).toNat)
 case atStart=>exact⟨0,rfl,rfl,by omega,gT.o,cL.o⟩
 case round =>
  obtain⟨k,rfl,rfl,hk,how,ao⟩:=hrel;have HB:=ae ao;have HO:=ae how;have bF:=ao.size;clear ao how;by_cases ar:k<l.length
  ·have hkD:k<D.length:=by rw[mI.o];exact ar
   have hval:D[k]=if l[k].1=0 then 0 else 1:=by
    have:=WS.o k ar;rw[List.getElem?_eq_getElem hkD]at this;exact Option.some.inj this
   obtain⟨b,off,rfl,hb,eP⟩:=(HS.o.kept HB.o).at1 (cw ar);have eI:k<(fill D k).length:=by rw[lh (by omega)];exact hkD
   have yq:=ae (qT hkD);have ye:=ae (vo ar);have HVF:=ae (jU l[k]);have HVN:=ae (od l[k]);have eQ:=HO.o;have Gm:=(eQ.cellAt k (by omega)).trans (bN eI);have Gn:=eQ.frozenAt k;have hST:=eQ.stored k (.int .u64 (D[k]:Int));rw[lH,yq.o]at hST;have cF:=ae hST;have RD:=(eQ.lt w.heap.size rfl).2;clear hST eQ;generalize l[k]=c at *;generalize (fill D k)[k]=y at *;generalize D[k]=z at *;by_cases h0:c.1=0
   ·rw[HVN.o h0]at eP
    rw[jey h0]at hval ye;subst hval;have HFl:jgt (decide (0∈cH (l.take (k+1)))=true):=ae (jeP (by rw[ye.o];simp));clear HVF HVN h0;have QP:=ae (xE false);generalize decide (0∈cH (l.take k))=fl at *;cases fl
    ·go_wp2_with fail
     refine(QP.o _).mono ?_;rintro e w5 ⟨rfl,rfl⟩;go_wp2_with fail;go_roundw
     case rel=>exact⟨k+1,by rw[HFl.o],by go_num,by omega,cF.o.1,cP HB.o (jeA _) _⟩
     case measure=>simp[intOf];omega
    ·go_wp2_with fail
     refine(QP.o _).mono ?_;rintro e w5 ⟨rfl,rfl⟩;go_wp2_with fail;go_roundw
     case rel=>exact⟨k+1,by rw[HFl.o],by go_num,by omega,cF.o.1,cP HB.o (jeA _) _⟩
     case measure=>simp[intOf];omega
   ·obtain⟨tt,uu,MP⟩:=HVF.o h0
    rw[MP]at eP;rw[jex h0]at hval ye;subst hval;have HFl:jgt (decide (0∈cH (l.take (k+1)))=decide (0∈cH (l.take k))):=ae (by rw[ye.o];simp);clear HVF HVN h0 MP;have QP:=ae (xE true);generalize decide (0∈cH (l.take k))=fl at *;cases fl
    ·go_wp2_with fail
     refine(QP.o _).mono ?_;rintro e w5 ⟨rfl,rfl⟩;go_wp2_with fail;go_roundw
     case rel=>exact⟨k+1,by rw[HFl.o],by go_num,by omega,cF.o.1,cP HB.o (jeA _) _⟩
     case measure=>simp[intOf];omega
    ·go_wp2_with fail
     refine(QP.o _).mono ?_;rintro e w5 ⟨rfl,rfl⟩;go_wp2_with fail;go_roundw
     case rel=>exact⟨k+1,by rw[HFl.o],by go_num,by omega,cF.o.1,cP HB.o (jeA _) _⟩
     case measure=>simp[intOf];omega
  ·obtain rfl:k=l.length:=by omega
   have e:fill D l.length=D:=by
    have:=qS D;rwa[mI.o]at this
   rw[e]at HO;rw[jeJ,HD.o];have HGr:=ae (HG.o.kept HB.o);clear e;by_cases h0:0∈D
   ·rw[jeP h0]
    have HHB:=ae (HY.o h0);have GJ:=ae (eH (HGr.o.kept (aj wr (.cells #[.int .u8 1] 5))) (io wr 1).sv (by simp;omega));have bW:(wr.alloc (.cells #[.int .u8 1] 5)).heap.size=wr.heap.size+1:=jeB _ _;clear HN HY h0;go_wp2_with fail;refine GJ.o.mono ?_;rintro e w6 ⟨rfl,⟨v6,MQ⟩,ct,WT⟩;have RD:=(HO.o.lt w.heap.size rfl).2
    have Dc:eS w6 w.heap.size (.slice (some ⟨w.heap.size,0,none⟩) l.length l.length) D:=by
     unfold eS;rw[mI.o];refine PO (bv HO.o (aj wr (.cells #[.int .u8 1] 5))) (WT w.heap.size (by omega) (by omega) (λe=>?_));have:=(HG.o.2.lt w.heap.size e).2;omega
    have GO:=ct.size;have AQ:=ae MQ;have fV:=ae ((HB.o.mono (jeV CO)).trans (((aj wr (.cells #[.int .u8 1] 5)).mono (by omega)).trans ct));have AV:=ae (Al Dc.sv H2.o);clear MQ ct WT Dc;go_wp2_with fail;refine AV.o.mono ?_;rintro e w7 ⟨⟨v7,rfl,ho7⟩,gJ⟩;have HP7:=ae (eH (AQ.o.kept gJ) ho7.sv (by have:=HSH.o;simp;omega));have jK:=ae (fV.o.trans (gJ.mono (by omega)));clear ho7 gJ;go_wp2_with fail;refine HP7.o.mono ?_;rintro e w8 ⟨rfl,⟨v8,hg8⟩,kO,_⟩;rw[jeQ]at hg8;have HG8:=ae hg8;have xZ:=ae (jK.o.trans kO);clear hg8 kO;go_wp2_with fail;go_end0
    rw[HHB.o];exact⟨rfl,⟨_,HG8.o⟩,xZ.o⟩
   ·rw[jeM h0]
    have HHB:=ae (HN.o h0);have GJ:=ae (eH (HGr.o.kept (aj wr (.cells #[.int .u8 0] 5))) (io wr 0).sv (by simp;omega));have bW:(wr.alloc (.cells #[.int .u8 0] 5)).heap.size=wr.heap.size+1:=jeB _ _;clear HN HY h0;go_wp2_with fail;refine GJ.o.mono ?_;rintro e w6 ⟨rfl,⟨v6,MQ⟩,ct,WT⟩;have AQ:=ae MQ;have fV:=ae ((HB.o.mono (jeV CO)).trans (((aj wr (.cells #[.int .u8 0] 5)).mono (by omega)).trans ct));clear MQ ct WT;go_wp2_with fail;go_end0
    rw[HHB.o];exact⟨rfl,⟨_,AQ.o⟩,fV.o⟩
def cT(z:Value)(l:List Value)(i:Nat):List Value:=l.take i++List.replicate (l.length-i) z
def mA(z:Value)(l:List Value):cT z l 0=List.replicate l.length z:=by simp[cT]
def oD(z:Value)(l:List Value):cT z l l.length=l:=by simp[cT]
def ir{z:Value}{l:List Value}{i:Nat}(h:i<=l.length):(cT z l i).length=l.length:=by simp[cT];omega
def lW{z:Value}{l:List Value}{i:Nat}(h:i<l.length):(cT z l i).set i l[i]=cT z l (i+1):=by
 unfold cT
 rw[List.set_append_right _ _ (by simp;omega),jeH,jfp (by omega),jf4,show l.length-i=(l.length-(i+1))+1 by omega,
  List.replicate_succ,jf6,jeO h,jeQ]
 rfl
def Sv.keptB{W W':World}{B:Nat}{v:Value}{xs:List Value}(h:Sv W v xs)(hv:∀ k,v.ownBlock=some k->k<B)(hb:Below B W W'):Sv W' v xs:=by
 obtain⟨a,cap,rfl,h1,h2,h3,h4⟩:=h;refine⟨a,cap,rfl,h1,h2,h3,λh0=>?_⟩;obtain⟨b,off,rfl,h5,h6⟩:=h4 h0;have hb':b<B:=hv b rfl;exact⟨b,off,rfl,jeY h5 hb.size,λj x hj=>(hb.cell (p:=⟨b,off+j,none⟩) hb').trans (h6 j x hj)⟩
def tw(W:World)(o:Obj):jgu W (W.drew.alloc o):=by
 have h1:jgu W W.drew:=⟨rfl,rfl,rfl,jeA _,λ_ _=>rfl⟩;exact h1.alloc (jeA _) _
def JY{s:List Nat}(hb:Bs s)(hl:s.length<=140737488355328)(W:World):∃ g cap W',(convert 9 30 (.string (bytesT s))).run prog W=.ok (.slice (some ⟨g,0,none⟩) s.length cap) W'/\Sv W' (.slice (some ⟨g,0,none⟩) s.length cap) (aA .u8 s)/\jgu W W'/\W'.heap.size=W.heap.size+1:=by
 have hr:=run_bytes_of_string (P:=prog) W 9 30 5 (bytesT s) underlying9 underlying30 underlying5;rw[be]at hr;refine⟨_,_,_,hr,?_,tw _ _,?_⟩
 ·have ed:=grownCap_ge W s.length 0 5
  have oT:=grownCap_le_maxLen W s.length 0 5 (by unfold maxLen;omega);refine⟨_,_,by rw[am],by rw[am];exact ed,oT,λe=>by(cases e),λh0=>⟨_,_,rfl,by rw[jeB];show W.heap.size<W.heap.size+1;omega,λj x hj=>?_⟩⟩
  have hj':j<s.length:=by
   have:=(List.getElem?_eq_some_iff.1 hj).1;rwa[am]at this
  rw[bN hj']at hj;have hh:(W.drew.alloc (.cells (bytesRow (bytesT s) (grownCap W s.length 0 5)) 5 ((bytesRow (bytesT s) (grownCap W s.length 0 5)).size,(bytesRow (bytesT s) (grownCap W s.length 0 5)).size+1))).heap[W.heap.size]?=some (.cells (bytesRow (bytesT s) (grownCap W s.length 0 5)) 5 ((bytesRow (bytesT s) (grownCap W s.length 0 5)).size,(bytesRow (bytesT s) (grownCap W s.length 0 5)).size+1)):=je2 W.drew _;rw[jeU,an hh,<- hj];unfold bytesRow bytesT;have hx:s[j]<256:=hb _ (jeD hj');rw[Array.getElem?_append_left (by simpa using hj')];simp[hj',jfA hx]
 ·rw[jeB]
  rfl
def rF{l:List Int}(hi:Is l)(hl:l.length<=256):(dx l).length<=5131:=(jY hi hl).1
def EZ{w:World}{v:Value}{l:List Int}(hs:Sv w v (aO l))(hl:l.length<=256)(hi:Is l):Calls prog 231 #[v] w (ee w (cnt l)):=by
 have HB:=ae (tq hs hl hi);have bH:=rF hi hl;have ix:jgt (cnt l=uv (dx l).length++dx l):=rfl;clear hs hi;generalize cnt l=cn at *;generalize dx l=bs at *;have vJ:=cG (n:=bs.length) (by omega);have HP:=ae (de bs.length (by omega));go_enter func231,ntmps231
 go_wp2_with fail;refine HB.o.mono ?_;rintro e w1 ⟨⟨v1,rfl,dM⟩,az⟩;have fX:=ae dM;have aL:=ae az;have bW:=az.size;obtain⟨a1,c1,rfl⟩:=dM.len;clear dM az;go_wp2_with fail;refine(HP.o _).mono ?_;rintro e w2 ⟨⟨v2,rfl,eA⟩,ap⟩;have eb:=ae (eA.low bW);have aG:=ae ap;have aX:=ap.size;clear eA ap;go_wp2_with (first | (at_builtin;refine aC rfl _ _ rfl w.heap.size _ _ (uv bs.length) bs rfl eb.o rfl (fX.o.kept aG.o).sv ?c1 ?c2 ?_))
 case c1=>omega
 case c2=>omega
 intro v4 w4 o4 b4;have gT:=ae o4;have cL:=ae ((aL.o.trans (aG.o.mono bW)).trans b4);clear o4 b4;go_wp2_with fail;go_ret
 rw[ix.o];exact⟨⟨_,rfl,gT.o⟩,cL.o⟩
def rG{l:List (List Nat)}{k:Nat}(h:k<l.length):(l.take (k+1)).flatten=(l.take k).flatten++l[k]:=by
 rw[jeO h,jgg];simp
def tz{l:List (List Nat)}(ht:Ts l)(hl:l.length<=256)(k:Nat):(l.take k).flatten.length<=16384:=by
 have h:=(ol (l:=l.take k) λs hs=>ht s (jfn hs)).1;rw[jeH]at h;omega
def uF{w:World}{g:Nat}{v vl:Value}{bs:List Nat}{l:List (List Nat)}(hg:Gs w g v bs)(zb:bs.length<=100000)(hs:Sv w vl (cA l))(fP:∀ k,vl.ownBlock=some k->k<g)(hl:l.length<=256)(ht:Ts l) :
  Calls prog 206 #[.func (.func 168) #[] #[.pointer (some ⟨g,0,none⟩)],vl] w (jr w g (bs++jz l)):=by
 obtain⟨i0,hi,bR,hz1',aX⟩:=jeT Ej;have HG:=ae hg;have CO:=hg.lt;have HS:=ae hs;have HT:=ae ht;have su:=ae fP;obtain⟨a,cap,rfl,bg,bx⟩:=hs.form1;rw[eN]at *;have hcm':cap<=9223372036854775807:=by unfold maxLen at bx;omega
 have XJ:jgt (jz l=cnt (ig l)++l.flatten):=rfl;have ql:=ae (λk=>tz ht hl k);obtain⟨D,hD⟩:∃ D,ig l=D:=⟨_,rfl⟩;have hDl:D.length=l.length:=by rw[<- hD,bU]
 have HDI:jgt (Is D):=ae (hD ▸ jZ ht);have WS:jgt (∀ k (h:k<l.length),(aO D)[k]?=some (.int .i64 ((bytesT l[k]).size:Int))):=ae (λk h=>by rw[<- hD];simp[ig,aO,h,be]);rw[hD]at XJ;have mI:=ae hDl
 have gV:(cnt D).length<=5141:=by
  have h1:=rF HDI.o (by omega);have h2:=cG (n:=(dx D).length) (by omega);unfold cnt;rw[jeC];omega
 clear hs bx hD hDl hg ht fP;go_enter func206,ntmps206
 go_wp2_with (first | (refine jft _ rfl _ _ 143 rfl w.heap.size 2 i0 (.int .i64 0) 1 underlying143 hi bR hz1' .i64 .i64 _ _ l.length rfl rfl ?m1 ?m2 ?m3 ?m4 ?m5 ?_))
 case m1=>rfl
 case m2=>rfl
 case m3=>rw[aX];omega
 case m4=>unfold maxLen;omega
 case m5=>omega
 intro w4 gz iE;have bD:jgu w w4:=(jez _ _).grown iE (jeA _) (λk hk=>by cases hk)
 have ho4':w4.ownsRow w.heap.size 2 1 (.slice (some ⟨w.heap.size,0,none⟩) l.length l.length) l.length (cT (.int .i64 0) (aO D) 0):=by
  rw[mA,bV,mI.o,<- jfZ];simpa using gz
 have gT:=ae ho4';have cL:=ae bD;clear gz iE bD ho4';go_wp2_with fail;go_loopw [14] (λi wr=>∃ k:Nat,i=.int .i64 (k:Int)/\k<=l.length/\wr.ownsRow w.heap.size 2 1 (.slice (some ⟨w.heap.size,0,none⟩) l.length l.length) l.length (cT (.int .i64 0) (aO D) k)/\jgu w wr) (λi _=>l.length-(intOf i).toNat)
 case atStart=>exact⟨0,rfl,by omega,gT.o,cL.o⟩
 case round =>
  obtain⟨k,rfl,hk,how,ao⟩:=hrel;have HB:=ae ao;have HO:=ae how;have bF:=ao.size;clear ao how;by_cases ar:k<l.length
  ·have hkD:k<(aO D).length:=by rw[bV,mI.o];exact ar
   have hval:(aO D)[k]=.int .i64 ((bytesT l[k]).size:Int):=by
    have:=WS.o k ar;rw[List.getElem?_eq_getElem hkD]at this;exact Option.some.inj this
   obtain⟨b,off,rfl,hb,eP⟩:=(HS.o.kept HB.o).at1 (gF ar);have eI:k<(cT (.int .i64 0) (aO D) k).length:=by rw[ir (by omega)];exact hkD
   have yq:=ae (lW (z:=.int .i64 0) hkD);have eQ:=HO.o;have Gm:=(eQ.cellAt k (by omega)).trans (List.getElem?_eq_getElem eI);have Gn:=eQ.frozenAt k;have hST:=eQ.stored k (.int .i64 ((bytesT l[k]).size:Int));rw[<- hval,yq.o]at hST;rw[hval]at hST;have cF:=ae hST;have RD:=(eQ.lt w.heap.size rfl).2;have lA:(bytesT l[k]).size<=64:=by rw[be];exact(HT.o _ (jeD ar)).1
   rw[gB]at eP;clear hST eQ hval;generalize (cT (.int .i64 0) (aO D) k)[k]=y at *;generalize bytesT l[k]=S at *;go_wp2_with fail;go_roundw
   case rel=>exact⟨k+1,by go_num,by omega,cF.o.1,cP HB.o (jeA _) _⟩
   case measure=>simp[intOf];omega
  ·obtain rfl:k=l.length:=by omega
   have e:cT (.int .i64 0) (aO D) l.length=aO D:=by
    have:=oD (.int .i64 0) (aO D);rwa[bV,mI.o]at this
   rw[e]at HO
   have ho':co wr w.heap.size (.slice (some ⟨w.heap.size,0,none⟩) l.length l.length) D:=by
    unfold co;rw[mI.o];exact HO.o
   have HCT:=ae (EZ ho'.sv (by rw[mI.o];exact hl) HDI.o);have HGr:=ae (HG.o.kept HB.o);clear e ho' HO;go_wp2_with fail;refine HCT.o.mono ?_;rintro e w6 ⟨⟨v6,rfl,Dc⟩,ct⟩;have AV:=ae (eH (HGr.o.kept ct) Dc.sv (by omega));have fV:=ae (HB.o.trans (ct.mono bF));have GO:=ct.size;clear Dc ct;go_wp2_with fail;refine AV.o.mono ?_;rintro e w7 ⟨rfl,⟨v7,hg7⟩,gJ,_⟩;have HG7:=ae hg7;have jK:=ae ((fV.o.mono (jeV CO)).trans gJ);clear hg7 gJ;go_wp2_with fail;go_loopw [31] (λi wr=>∃ k:Nat,i=.int .i64 (k:Int)/\k<=l.length/\(∃ v',Gs wr g v' (bs++cnt D++(l.take k).flatten))/\Below g w wr) (λi _=>l.length-(intOf i).toNat)
   case atStart=>exact⟨0,rfl,by omega,⟨v7,by simpa using HG7.o⟩,jK.o⟩
   case round =>
    obtain⟨k,rfl,hk,⟨vq,hgq⟩,QY⟩:=hrel;have HGQ:=ae hgq;have HBQ:=ae QY;have hzq:=QY.size;clear hgq QY;by_cases ar:k<l.length
    ·obtain⟨b,off,rfl,hb,eP⟩:=(HS.o.keptB su.o HBQ.o).at1 (gF ar)
     obtain⟨GK,htb⟩:=HT.o _ (jeD ar);obtain⟨gc,cc,wc,KZ,Dj,hbc,hzc⟩:=JY htb (by omega) wr;rw[gB]at eP;have CQ:=ae (rG ar);have eI:=ql.o k;have HPQ:=ae (eH (HGQ.o.kept hbc) Dj (by simp only[jeC];omega));have HBC:=ae (HBQ.o.trans (hbc.mono (jeK (jeV HGQ.o.lt) (jeA _))));have iV:g<wr.heap.size:=HGQ.o.lt;clear Dj hbc htb GK;generalize bytesT l[k]=S at *;generalize l[k]=x at *;go_wp2_with fail;refine HPQ.o.mono ?_;rintro e w8 ⟨rfl,⟨v8,hg8⟩,kO,_⟩;rw[jeQ,<- CQ.o]at hg8;have HG8:=ae hg8;have xZ:=ae (HBC.o.trans kO);clear hg8 kO;go_wp2_with fail;go_roundw
     case rel=>exact⟨k+1,by go_num,by omega,⟨_,HG8.o⟩,xZ.o⟩
     case measure=>simp[intOf];omega
    ·obtain rfl:k=l.length:=by omega
     rw[jeJ,jeQ,<- XJ.o]at HGQ;go_wp2_with fail;go_end0
     exact⟨rfl,⟨_,HGQ.o⟩,HBQ.o⟩
open Go.Shelf
def UR:∀{a b:List UInt8},a<b↔a.map UInt8.toNat<b.map UInt8.toNat
 | [],[]=>by simp
 | [],y::t=>by simp
 | x::s,[]=>by simp
 | x::s,y::t=>by
  have ih:=UR (a:=s) (b:=t);have h3:(x::s<y::t)↔(x<y∨x=y/\s<t):=List.cons_lt_cons_iff;have h4:(x.toNat::s.map UInt8.toNat<y.toNat::t.map UInt8.toNat)↔(x.toNat<y.toNat∨x.toNat=y.toNat/\s.map UInt8.toNat<t.map UInt8.toNat):=List.cons_lt_cons_iff;have h5:x=y↔x.toNat=y.toNat:=⟨λe=>by rw[e],λe=>UInt8.toNat_inj.1 e⟩;rw[je4,je4,h3,h4,ih,UInt8.lt_iff_toNat_lt,h5]
def US{x y:List UInt8}(h1:x≠y)(h2:¬ y<x):x<y:=by
 rcases List.le_iff_lt_or_eq.1 (show x<=y from h2)with h | h
 ·exact h
 ·exact absurd h h1
def pV(l:List (List UInt8)):List (List UInt8):=l.mergeSort λx y=>decide (x<=y)
def ll(l:List (List UInt8)):(pV l).length=l.length:=List.length_mergeSort l
def mB{l:List (List UInt8)}:∀ m,m<=l.length->∀ z,z∈compactUpTo l.toArray m↔z∈l.take m
 | 0,_,z=>by simp[compactUpTo]
 | m+1,hm,z=>by
  have ih:=mB (l:=l) m (by omega);have hg:l.toArray[m]! = l[m]:=by simp[show m<l.length by omega]
  rw[compactUpTo_succ,je1,ih z,jeO (by omega),je1,hg];by_cases hk:keeps l.toArray m=true
  ·rw[jey hk]
  ·rw[jex hk]
   constructor
   ·rintro(h | h)
    ·exact Or.inl h
    ·simp at h
   ·rintro(h | h)
    ·exact Or.inl h
    ·left
     have h':z=l[m]:=by simpa using h
     unfold keeps at hk;simp only[jfb]at hk;have dP:l.toArray[m-1]! = l[m-1]:=by simp[show m-1<l.length by omega]
     rw[hg,dP]at hk;have hm0:m≠0:=λe=>hk (Or.inl e)
     have he:l[m]=l[m-1]:=Decidable.byContradiction λe=>hk (Or.inr e)
     rw[h',he];exact jgs.2 ⟨m-1,by omega,rfl⟩
def mR{l:List (List UInt8)}(hs:l.Pairwise (·<=·)):∀ m,m<=l.length->(compactUpTo l.toArray m).Pairwise (· < ·)
 | 0,_=>by simp[compactUpTo]
 | m+1,hm=>by
  have ih:=mR hs m (by omega);have hg:l.toArray[m]! = l[m]:=by simp[show m<l.length by omega]
  rw[compactUpTo_succ,hg];by_cases hk:keeps l.toArray m=true
  ·rw[jey hk]
   refine List.pairwise_append.2 ⟨ih,by simp,λa ha b hb=>?_⟩;have hb':b=l[m]:=by simpa using hb
   subst hb';have h1:=(mB m (by omega) a).1 ha;obtain⟨j,hj,rfl⟩:=jgs.1 h1;have hjm:j<m:=(by omega);unfold keeps at hk;simp only[jfb]at hk;have dP:l.toArray[m-1]! = l[m-1]:=by simp[show m-1<l.length by omega]
   rw[hg,dP]at hk
   have h2:l[m]≠l[m-1]:=by
    rcases hk with h | h
    ·omega
    ·exact h
   have h3:l[m-1]<=l[m]:=jgl.1 hs (m-1) m (by omega) (by omega) (by omega)
   have h4:l[j]<=l[m-1]:=by
    rcases je0 j (m-1)with h | h
    ·exact jgl.1 hs j (m-1) (by omega) (by omega) h
    ·have:j=m-1:=by omega
     subst this;exact List.le_refl _
   have h5:l[m-1]<l[m]:=US (λe=>h2 e.symm) h3;exact List.lt_of_le_of_lt h4 h5
  ·rw[jex hk,jeS]
   exact ih
def Cd(l:List (List UInt8)):(Lib.compact (pV l)).map (λs=>s.map UInt8.toNat)=tuq (l.map λs=>s.map UInt8.toNat):=by
 have hs:(pV l).Pairwise (·<=·):=by
  have:=List.pairwise_mergeSort (le:=λx y:List UInt8=>decide (x<=y)) (λa b c h1 h2=>by simp only[jfb]at *;exact List.le_trans h1 h2) (λa b=>by simp only[Bool.or_eq_true,jfb];exact List.le_total a b) l;exact this.imp (λh=>by simpa using h)
 refine ub ?_ (wO _) (λz=>?_)
 ·exact List.pairwise_map.2 ((mR hs _ (jeA _)).imp λh=>UR.1 h)
 ·rw[qP]
  have hm:=λy=>mB (l:=pV l) (pV l).length (jeA _) y
  rw[jeJ]at hm;unfold Lib.compact;simp only[jeN,hm];constructor
  ·rintro⟨y,hy,rfl⟩
   exact⟨y,List.mem_mergeSort.1 hy,rfl⟩
  ·rintro⟨y,hy,rfl⟩
   exact⟨y,List.mem_mergeSort.2 hy,rfl⟩
def upT(l:List (List Nat)):List (List UInt8):=l.map λs=>s.map Nat.toUInt8
def dnT(l:List (List UInt8)):List (List Nat):=l.map λs=>s.map UInt8.toNat
def Fa(l:List (List Nat)):cA l=(upT l).map encStr:=by
 unfold cA upT;rw[jfa];rfl
def up_dn(u:List (List UInt8)):upT (dnT u)=u:=by
 unfold upT dnT;rw[jfa];conv=>rhs;rw[<- jfx u]
 apply jfy
 intro s _;simp only[Function.comp,jfa,id];conv=>rhs;rw[<- jfx s]
 apply jfy
 intro x _;simp
def dn_up{l:List (List Nat)}(h:∀ s∈l,Bs s):dnT (upT l)=l:=by
 unfold upT dnT;rw[jfa];conv=>rhs;rw[<- jfx l]
 apply jfy
 intro s hs;exact kU (h s hs)
def tA(l:List (List Nat)):(upT l).length=l.length:=jeE _
def JZ{l:List (List Nat)}(h:∀ s∈l,Bs s):Lib.compact (pV (upT l))=upT (tuq l):=by
 have h1:=Cd (upT l);have h2:(upT l).map (λs=>s.map UInt8.toNat)=l:=dn_up h;rw[h2]at h1;rw[<- h1];exact(up_dn _).symm
def Sv.texts{W:World}{b off n cap:Nat}{l:List (List Nat)}(h:Sv W (.slice (some ⟨b,off,none⟩) n cap) (cA l)):∀ j,j<(l.map bytesT).length->W.cell? ⟨b,off+j,none⟩=some (.string ((l.map bytesT).getD j ByteArray.empty)):=by
 intro j hj;rw[jeE]at hj;obtain⟨b',off',h1,_,h2⟩:=h.at1 (gF hj);cases h1
 rw[h2,gB];simp[List.getD_eq_getElem?_getD,hj]
def Ka{w:World}{v:Value}{l:List (List Nat)}(hs:Sv w v (cA l))(hl:l.length<=256) :
  Calls prog 207 #[v] w λe w'=>(∃ v',e=.returned v'/\jn w' w.heap.size v' l)/\jgu w w':=by
 have Da:=hs;obtain⟨a,cap,rfl,h1,h2,h3,h4⟩:=hs;rw[eN]at *;cases a with
 | none =>
  have hc:=h3 rfl;have tN:l=[]:=jeW (by omega);subst tN;refine Calls.mono (AnyG.slices_Clone_string_nil lv _ _ w) ?_;rintro e w' ⟨rfl,rfl⟩;exact⟨⟨_,rfl,jn.nil _ _⟩,jez _ _⟩
 | some a =>
  rcases jfs l.length with h0 | h0
  ·have tN:l=[]:=jeW h0
   subst tN;refine Calls.mono (AnyG.slices_Clone_string_zero lv a cap w) ?_;rintro e w' ⟨v',rfl,ho,_,hb⟩;exact⟨⟨_,rfl,ho⟩,hb⟩
  ·obtain⟨b,off,h5,h6,h7⟩:=h4 h0
   cases h5
   refine Calls.mono (AnyG.slices_Clone_string lv b off l.length cap (l.map bytesT) w (by rw[jeE];omega) (by omega) Da.texts) ?_;rintro e w' ⟨v',rfl,ho,_,hb⟩;rw[jfi (by rw[jeE];omega),jfa]at ho;exact⟨⟨_,rfl,ho⟩,hb⟩
def rH{α : Type}[Inhabited α]{enc:α->Value}{w:World}{g q k:Nat}{d:Array α}(h:k≠g):(Sort.putRow enc (Sort.ahead w q) g 0 d).heap[k]?=w.heap[k]?:=by
 simp[Sort.putRow,Sort.mapBlock,Sort.ahead,Array.getElem?_modify,Ne.symm h]
def PQ{w:World}{B:Nat}{v:Value}{zs:List (List UInt8)}(h:w.ownsRow B 9 1 v zs.length (zs.map encStr))(hl:zs.length<=256)(hB:B<=w.heap.size) :
  Calls prog 208 #[v] w λe w'=>e=.returned (.tuple #[])/\w'.ownsRow B 9 1 v zs.length ((pV zs).map encStr)/\Below B w w'/\∀ k,k<w.heap.size->v.ownBlock≠some k->w'.heap[k]?=w.heap[k]?:=by
 by_cases hv:v=.slice none 0 0
 ·subst hv
  have tN:zs=[]:=by
   rcases h.2 with ⟨_,h2⟩ | ⟨g,cap,cur,h2,_⟩
   ·exact jeW h2
   ·cases h2
  subst tN;refine Calls.mono (AnyM.slices_Sort_string_none qY none 0 w) ?_;rintro e w' ⟨rfl,rfl⟩;exact⟨rfl,(by unfold pV;rw[List.mergeSort_nil];exact h),jez _ _,λ_ _ _=>rfl⟩
 ·obtain⟨g,cap,rfl,hb,hg,hc,hm,bH,hH⟩:=holds_of_ownsRow (enc:=encStr) h hv
  refine Calls.mono (AnyM.slices_Sort_string qY g 0 cap zs w hH hg (by omega)) ?_;rintro e w' ⟨rfl,n,os,rfl⟩;have h1:=ownsRow_putRow (enc:=encStr) (q:=n) (k:=zs.length) (ys:=pV zs) h (ll zs) (jeA _);have az:=below_putRow (enc:=encStr) (q:=n) (d:=(pV zs).toArray) (jez B w) hb;refine⟨rfl,?_,az.trans (ku os (by have:=az.size;omega)),λk hk dC=>?_⟩
  ·rw[jfi (by rw[ll];omega)]at h1
   exact bv h1 (ku os (jeA _))
  ·have hkg:k≠g:=λe=>dC (by rw[e];rfl)
   have h2:=rH (enc:=encStr) (w:=w) (q:=n) (d:=(pV zs).toArray) hkg;have h3:=az.size;exact((ku (w:=Sort.putRow encStr (Sort.ahead w n) g 0 (pV zs).toArray) os (jeA _)).block k (jeY hk h3)).trans h2
def Ce{w:World}{B:Nat}{v:Value}{zs:List (List UInt8)}(h:w.ownsRow B 9 1 v zs.length (zs.map encStr))(hl:zs.length<=256)(hB:B<=w.heap.size) :
  Calls prog 209 #[v] w λe w'=>(∃ v',e=.returned v'/\w'.ownsRow B 9 1 v' (Lib.compact zs).length ((Lib.compact zs).map encStr))/\Below B w w'/\∀ k,k<w.heap.size->v.ownBlock≠some k->w'.heap[k]?=w.heap[k]?:=by
 by_cases hv:v=.slice none 0 0
 ·subst hv
  have tN:zs=[]:=by
   rcases h.2 with ⟨_,h2⟩ | ⟨g,cap,cur,h2,_⟩
   ·exact jeW h2
   ·cases h2
  subst tN;refine Calls.mono (AnyG.slices_Compact_string_empty pe none 0 w) ?_;rintro e w' ⟨rfl,rfl⟩;exact⟨⟨_,rfl,h⟩,jez _ _,λ_ _ _=>rfl⟩
 ·obtain⟨g,cap,rfl,hb,hg,hc,hm,bH,hH⟩:=holds_of_ownsRow (enc:=encStr) h hv
  have oT:=Lib.compact_length_le zs;refine Calls.mono (AnyG.slices_Compact_string pe g 0 cap zs w hH (by omega) (by omega)) ?_;rintro e w' ⟨rfl,q,rfl⟩;have h1:=ownsRow_putRow (enc:=encStr) (q:=q) (k:=(Lib.compact zs).length) (ys:=Lib.compact zs++List.replicate (zs.length-(Lib.compact zs).length) []) h (by simp;omega) (by omega);rw[jfo]at h1;exact⟨⟨_,rfl,h1⟩,below_putRow (enc:=encStr) (jez B w) hb,λk hk dC=>rH (λe=>dC (by rw[e];rfl))⟩
def Fb{u:List (List Nat)}{x:List Nat}(hr:ve u)(hx:x∈u){t:Nat}(ht:t<u.length):u[t]<x↔t<plT u x:=by
 obtain⟨h1,h2⟩:=oj hx;rw[List.getElem?_eq_getElem h1]at h2;have h3:u[plT u x]=x:=Option.some.inj h2;have hp:=jgl.1 hr;constructor
 ·intro h
  rcases je0 t (plT u x)with h4 | h4
  ·exact h4
  ·rcases je0 (plT u x) t with h5 | h5
   ·have h6:=hp _ _ h1 ht h5
    rw[h3]at h6;exact absurd (sV h h6) (List.lt_irrefl _)
   ·obtain rfl:t=plT u x:=by omega
    rw[h3]at h;exact absurd h (List.lt_irrefl _)
 ·intro h
  have:=hp _ _ ht h1 h;rwa[h3]at this
def Fc{w:World}{v:Value}{u:List (List Nat)}(hs:Sv w v (cA u))(hl:u.length<=256)(hr:ve u)(hu:∀ s∈u,Bs s){x:List Nat}(hx:x∈u) :
  Calls prog 234 #[v,.string (bytesT x)] w λe w'=>(∃ r,e=.returned (.tuple #[.int .i64 (plT u x:Nat),r]))/\jgu w w':=by
 have Da:=hs;obtain⟨a,cap,rfl,h1,h2,h3,h4⟩:=hs;rw[eN]at *;have Wm:0<u.length:=List.length_pos_of_mem hx;obtain⟨b,off,rfl,h6,h7⟩:=h4 Wm;refine Calls.mono (Any2.slices_BinarySearch_string Tj b off u.length cap (λt=>(u.map bytesT).getD t (bytesT x)) (bytesT x) w (by omega) ?_) ?_
 ·intro j hj
  have:=h7 j _ (gF hj);rw[this,gB];simp[List.getD_eq_getElem?_getD,hj]
 ·rintro e w' ⟨rfl,q,rfl⟩
  have hk:=(oj hx).1
  have zb:Lib.bsGo (λt=>Op.bytesLess ((u.map bytesT).getD t (bytesT x)).toList (bytesT x).toList) u.length 0 u.length=plT u x:=by
   refine Lib.bsGo_spec _ (plT u x) ?_ ?_ _ _ _ (by omega) (by omega) (by omega)
   ·intro t ht
    have QZ:t<u.length:=(by omega);have e1:(u.map bytesT).getD t (bytesT x)=bytesT u[t]:=by simp[List.getD_eq_getElem?_getD,QZ]
    simp only[e1,dE];rw[qE (hu _ (jeD QZ)) (hu _ hx)];exact jeP ((Fb hr hx QZ).2 ht)
   ·intro t ht
    rcases je0 t u.length with QZ | QZ
    ·have e1:(u.map bytesT).getD t (bytesT x)=bytesT u[t]:=by simp[List.getD_eq_getElem?_getD,QZ]
     simp only[e1,dE];rw[qE (hu _ (jeD QZ)) (hu _ hx)];refine jeM (λh=>?_);have:=(Fb hr hx QZ).1 h;omega
    ·have e1:(u.map bytesT).getD t (bytesT x)=bytesT x:=by
      rw[List.getD_eq_getElem?_getD,List.getElem?_eq_none (by rw[jeE];omega)];rfl
     simp only[e1,dE];rw[qE (hu _ hx) (hu _ hx)];exact jeM (List.lt_irrefl _)
  rw[zb];exact⟨⟨_,rfl⟩,ak (jez _ _) q⟩
def Fe{w:World}{vu v:Value}{u l:List (List Nat)}(hu:Sv w vu (cA u))(hs:Sv w v (cA l))(hl:l.length<=256)(QN:u.length<=256)(hr:ve u)(hub:∀ s∈u,Bs s)(hm:∀ x∈l,x∈u) :
  Calls prog 211 #[vu,v] w λe w'=>(∃ v',e=.returned v'/\co w' w.heap.size v' (l.map λs=>(plT u s:Int)))/\jgu w w':=by
 obtain⟨i0,hi,bR,hz1',aX⟩:=jeT Ej;have HU:=ae hu;have HS:=ae hs;have HR:=ae hr;have HM:=ae hm;have HUB:=ae hub;obtain⟨a,cap,rfl,bg,bx⟩:=hs.form1;rw[eN]at *;have hcm':cap<=9223372036854775807:=by unfold maxLen at bx;omega
 clear hs hu bx hr hm hub;obtain⟨D,hD⟩:∃ D,(l.map λs=>(plT u s:Int))=D:=⟨_,rfl⟩;have hDl:D.length=l.length:=by rw[<- hD,jeE]
 have WS:jgt (∀ k (h:k<l.length),(aO D)[k]?=some (.int .i64 (plT u l[k]:Nat))):=ae (λk h=>by rw[<- hD];simp[aO,h]);rw[hD];have mI:=ae hDl;clear hD hDl;go_enter func211,ntmps211
 go_wp2_with (first | (refine jft _ rfl _ _ 143 rfl w.heap.size 2 i0 (.int .i64 0) 1 underlying143 hi bR hz1' .i64 .i64 _ _ l.length rfl rfl ?m1 ?m2 ?m3 ?m4 ?m5 ?_))
 case m1=>rfl
 case m2=>rfl
 case m3=>rw[aX];omega
 case m4=>unfold maxLen;omega
 case m5=>omega
 intro w4 gz iE;have bD:jgu w w4:=(jez _ _).grown iE (jeA _) (λk hk=>by cases hk)
 have ho4':w4.ownsRow w.heap.size 2 1 (.slice (some ⟨w.heap.size,0,none⟩) l.length l.length) l.length (cT (.int .i64 0) (aO D) 0):=by
  rw[mA,bV,mI.o,<- jfZ];simpa using gz
 have gT:=ae ho4';have cL:=ae bD;clear gz iE bD ho4';go_wp2_with fail;go_loopw [15] (λi wr=>∃ k:Nat,i=.int .i64 (k:Int)/\k<=l.length/\wr.ownsRow w.heap.size 2 1 (.slice (some ⟨w.heap.size,0,none⟩) l.length l.length) l.length (cT (.int .i64 0) (aO D) k)/\jgu w wr) (λi _=>l.length-(intOf i).toNat)
 case atStart=>exact⟨0,rfl,by omega,gT.o,cL.o⟩
 case round =>
  obtain⟨k,rfl,hk,how,ao⟩:=hrel;have HB:=ae ao;have HO:=ae how;have bF:=ao.size;clear ao how;by_cases ar:k<l.length
  ·have hkD:k<(aO D).length:=by rw[bV,mI.o];exact ar
   have hval:(aO D)[k]=.int .i64 (plT u l[k]:Nat):=by
    have:=WS.o k ar;rw[List.getElem?_eq_getElem hkD]at this;exact Option.some.inj this
   obtain⟨b,off,rfl,hb,eP⟩:=(HS.o.kept HB.o).at1 (gF ar);have hmem:=HM.o l[k] (jeD ar);have HSr:=ae (Fc (HU.o.kept HB.o) QN HR.o HUB.o hmem);have hplt:=(oj hmem).1;have eI:k<(cT (.int .i64 0) (aO D) k).length:=by rw[ir (by omega)];exact hkD
   have yq:=ae (lW (z:=.int .i64 0) hkD);rw[hval]at yq;rw[gB]at eP;clear hval hmem;generalize bytesT l[k]=S at *;generalize plT u l[k]=pz at *;generalize hy:(cT (.int .i64 0) (aO D) k)[k]=y;have hyy:=List.getElem?_eq_getElem eI;rw[hy]at hyy;clear hy;go_wp2_with fail;refine HSr.o.mono ?_;rintro e w5 ⟨⟨r,rfl⟩,bQ⟩;have eQ:=bv HO.o bQ;have bq:=ae (HB.o.trans (bQ.mono bF));have Gm:=(eQ.cellAt k (by omega)).trans hyy;have Gn:=eQ.frozenAt k;have hST:=eQ.stored k (.int .i64 (pz:Nat));rw[yq.o]at hST;have cF:=ae hST;have RD:=(eQ.lt w.heap.size rfl).2;clear hST bQ eQ;go_wp2_with fail;go_roundw
   case rel=>exact⟨k+1,by go_num,by omega,cF.o.1,cP bq.o (jeA _) _⟩
   case measure=>simp[intOf];omega
  ·obtain rfl:k=l.length:=by omega
   have e:cT (.int .i64 0) (aO D) l.length=aO D:=by
    have:=oD (.int .i64 0) (aO D);rwa[bV,mI.o]at this
   rw[e]at HO
   have HO':jgt (co wr w.heap.size (.slice (some ⟨w.heap.size,0,none⟩) l.length l.length) D):=ae (by
    unfold co;rw[mI.o];exact HO.o)
   clear HO e;go_wp2_with fail;go_ret
   exact⟨⟨_,rfl,HO'.o⟩,HB.o⟩
def ea{W W':World}{B p:Nat}{x:Value}(h:W.cell? ⟨p,0,none⟩=some x)(hb:Below B W W')(hp:p<B):W'.cell? ⟨p,0,none⟩=some x:=(hb.cell (p:=⟨p,0,none⟩) hp).trans h
def UT{l:List (List Nat)}(ht:Ts l)(hl:l.length<=256):(jz l).length<=21525:=(sX ht hl).1
def yJ{w:World}{g p:Nat}{v vl:Value}{l:List (List Nat)}(hg:Gs w g v [])(hp:p<g)(hc:w.cell? ⟨p,0,none⟩=some vl)(hs:Sv w vl (cA l))(fP:∀ k,vl.ownBlock=some k->k<g)(hl:l.length<=256)(ht:Ts l) :
  Calls prog 205 #[.func (.func 168) #[] #[.pointer (some ⟨g,0,none⟩)],.pointer (some ⟨p,0,none⟩)] w (jr w g (plain l)):=by
 have HG:=ae hg;have CO:=hg.lt;have HC:=ae hc;have HS:=ae hs;have su:=ae fP;have HT:=ae ht;have GJ:=ae (eH (hg.kept (aj w (.cells #[.int .u8 0] 5))) (io w 0).sv (by simp));have bW:(w.alloc (.cells #[.int .u8 0] 5)).heap.size=w.heap.size+1:=jeB _ _;clear hg hc hs fP ht;go_enter func205,ntmps205
 go_wp2_with fail;refine GJ.o.mono ?_;rintro e w1 ⟨rfl,⟨v1,dP⟩,az,_⟩;have aL:=ae (((aj w (.cells #[.int .u8 0] 5)).mono (jeV CO)).trans az);have ju:=ea HC.o aL.o hp;have Wr:=ae (uF dP (by simp) (HS.o.keptB su.o aL.o) su.o hl HT.o);obtain⟨a,cap,rfl,_,_⟩:=HS.o.form1;clear dP az;go_wp2_with fail;refine Wr.o.mono ?_;rintro e w2 ⟨rfl,⟨v2,fY⟩,ap⟩;have Le:=ae fY;have aG:=ae (aL.o.trans ap);clear fY ap;go_wp2_with fail;go_end0
 exact⟨rfl,⟨_,Le.o⟩,aG.o⟩
def Cf{w:World}{vl:Value}{l:List (List Nat)}(hs:Sv w vl (cA l))(fP:∀ k,vl.ownBlock=some k->k<w.heap.size)(hl:l.length<=256)(ht:Ts l) :
  Calls prog 172 #[vl] w (ee w (plain l)):=by
 obtain⟨a,cap,rfl,_,_⟩:=hs.form1
 have HGA:=ae (UO (w:=w.alloc (.cells #[.slice a (cA l).length cap] 144)) (p:=.pointer (some ⟨w.heap.size,0,none⟩)) (bs:=plain l) (λW hg hb=>by
  have hz:=jeB w (.cells #[.slice a (cA l).length cap] 144);refine yJ hg (by omega) ?_ ((hs.kept (aj w _)).kept hb) (λk hk=>by have:=fP k hk;omega) hl ht;rw[hb.cell (p:=⟨w.heap.size,0,none⟩) (by show w.heap.size<_;omega)];exact aV _ _ _))
 have HB:=ae (aj w (.cells #[.slice a (cA l).length cap] 144));have hz:=jeB w (.cells #[.slice a (cA l).length cap] 144);clear hs fP ht;generalize plain l=bs at *;generalize (cA l).length=n at *;go_enter func172,ntmps172
 go_wp2_with fail;refine HGA.o.mono ?_;rintro e w1 ⟨⟨v1,rfl,dM⟩,az⟩;have fX:=ae (dM.low (B:=w.heap.size) (by omega));have aL:=ae (HB.o.trans (az.mono (by omega)));clear dM az;go_wp2_with fail;go_ret
 exact⟨⟨_,rfl,fX.o⟩,aL.o⟩
def yK{w:World}{g p q:Nat}{v vl vu:Value}{l:List (List Nat)}(hg:Gs w g v [])(hp:p<g)(hq:q<g)(hcu:w.cell? ⟨q,0,none⟩=some vu)(gV:w.cell? ⟨p,0,none⟩=some vl)
  (hs:Sv w vl (cA l)) (fP:∀ k,vl.ownBlock=some k->k<g) (hu:Sv w vu (cA (tuq l))) (jbm:∀ k,vu.ownBlock=some k->k<g) (hl:l.length<=256) (ht:Ts l) :
  Calls prog 210 #[.func (.func 168) #[] #[.pointer (some ⟨g,0,none⟩)],.pointer (some ⟨q,0,none⟩),.pointer (some ⟨p,0,none⟩)] w (jr w g (dd l)):=by
 have CO:=hg.lt;have HCU:=ae hcu;have mH:=ae gV;have HS:=ae hs;have HU:=ae hu;have su:=ae fP;have WU:=ae jbm;have HT:=ae ht;have QN:(tuq l).length<=256:=by have:=ko l;omega
 have htxl:=UT (sW ht) QN;have iV:=rF (je hl) (by rw[dp];exact hl);have za:jgt (dd l=1::(uv (tuq l).length++(jz (tuq l)++dx (ep l)))):=rfl;have vJ:=cG (n:=(tuq l).length) (by omega);have GJ:=ae (eH (hg.kept (aj w (.cells #[.int .u8 1] 5))) (io w 1).sv (by simp));have bW:(w.alloc (.cells #[.int .u8 1] 5)).heap.size=w.heap.size+1:=jeB _ _;obtain⟨a,cap,rfl,_,_⟩:=hs.form1;obtain⟨au,capu,rfl,_,_⟩:=hu.form1;rw[eN]at *;have HPU:=ae (de (tuq l).length (by omega));clear hg gV hs fP ht hu jbm;go_enter func210,ntmps210
 go_wp2_with fail;refine GJ.o.mono ?_;rintro e w1 ⟨rfl,⟨v1,dP⟩,az,_⟩;have aL:=ae (((aj w (.cells #[.int .u8 1] 5)).mono (jeV CO)).trans az);have tR:=ae dP;have hcu1:=ea HCU.o aL.o hq;clear dP az hcu;go_wp2_with fail;refine(HPU.o _).mono ?_;rintro e w2 ⟨⟨v2,rfl,eA⟩,ap⟩;have Wr:=ae (eH (tR.o.kept ap) eA.sv (by simp;omega));have aG:=ae (aL.o.trans (ap.mono (jeV tR.o.lt)));clear eA ap hcu1;go_wp2_with fail;refine Wr.o.mono ?_;rintro e w3 ⟨rfl,⟨v3,hg3⟩,aJ,_⟩;have aY:=ae (aG.o.trans aJ);have hcu3:=ea HCU.o aY.o hq;have HP3:=ae (uF hg3 (by simp;omega) (HU.o.keptB WU.o aY.o) WU.o QN (sW HT.o));clear hg3 aJ;go_wp2_with fail;refine HP3.o.mono ?_;rintro e w4 ⟨rfl,⟨v4,iE⟩,bD⟩;have cL:=ae (aY.o.trans bD);have XH:=ae iE;have hcu4:=ea HCU.o cL.o hq;have hcl4:=ea mH.o cL.o hp;have MJ:=ae (Fe (HU.o.keptB WU.o cL.o) (HS.o.keptB su.o cL.o) hl QN (wO l) (λs hs=>(sW HT.o s hs).2) (λx hx=>qP.2 hx));clear iE bD hcu3;go_wp2_with fail;refine MJ.o.mono ?_;rintro e w5 ⟨⟨v5,rfl,eQ⟩,bQ⟩;have hG5:=XH.o.kept bQ;have QV:=ae hG5;have bq:=ae (cL.o.trans (bQ.mono (jeV XH.o.lt)));have HP5:=ae (tq (l:=ep l) eQ.sv (by rw[dp];exact hl) (je hl));clear eQ bQ hcu4 hcl4 hG5;go_wp2_with fail;refine HP5.o.mono ?_;rintro e w6 ⟨⟨v6,rfl,Dc⟩,ct⟩;have AV:=ae (eH (QV.o.kept ct) Dc.sv (by simp;omega));have fV:=ae (bq.o.trans (ct.mono (jeV QV.o.lt)));clear Dc ct;go_wp2_with fail;refine AV.o.mono ?_;rintro e w7 ⟨rfl,⟨v7,hg7⟩,gJ,_⟩
 have HG7:jgt (Gs w7 g v7 (dd l)):=ae (by
  rw[za.o];simpa [jeQ]using hg7)
 have jK:=ae (fV.o.trans gJ);clear hg7 gJ;go_wp2_with fail;go_end0
 exact⟨rfl,⟨_,HG7.o⟩,jK.o⟩
def xL{W:World}{p T:Nat}{c:Array Value}(h:W.heap[p]?=some (.cells c T (0,0)))(hc:0<c.size):W.cell? ⟨p,0,none⟩=some c[0]/\W.frozen? ⟨p,0,none⟩=false :=
 ⟨by rw[an h];simp[hc],by simp[World.frozen?,h]⟩
def Kb{w:World}{B e size n q i:Nat}{v x:Value}{xs:List Value}(h:w.ownsRow B e size v n xs)(hq:∀ k,v.ownBlock=some k->k≠q):(w.setCell ⟨q,i,none⟩ x).ownsRow B e size v n xs:=by
 obtain⟨h0,h | ⟨g,cap,cur,rfl,h2,h3,h4⟩⟩:=h
 ·exact⟨h0,Or.inl h⟩
 ·exact⟨h0,Or.inr ⟨g,cap,cur,rfl,h2,(Below.heap_setCell _ _ _ _ (hq g rfl)).trans h3,h4⟩⟩
def Ff{w:World}{B e n q T:Nat}{v:Value}{xs:List Value}{c:Array Value}(h:w.ownsRow B e 1 v n xs)(hq:w.heap[q]?=some (.cells c T (0,0)))(hT:T≠e):∀ k,v.ownBlock=some k->k≠q:=by
 intro k hk e1;subst e1;obtain⟨h0,⟨rfl,_⟩ | ⟨g,cap,cur,rfl,h2,h3,h4⟩⟩:=h
 ·cases hk
 ·cases hk
  rw[hq]at h3;cases h3
  exact hT rfl
def Cg{w:World}{vl:Value}{l:List (List Nat)}(hs:Sv w vl (cA l))(fP:∀ k,vl.ownBlock=some k->k<w.heap.size)(hl:l.length<=256)(ht:Ts l) :
  Calls prog 173 #[vl] w (ee w (dd l)):=by
 obtain⟨a,cap,rfl,_,_⟩:=hs.form1;have HS:=ae hs;have su:=ae fP;have HT:=ae ht;rw[eN]at *;have qm:=ae (aj w (.cells #[.slice a l.length cap] 144));have hzx:=jeB w (.cells #[.slice a l.length cap] 144);have HCX:=ae (aV w (.slice a l.length cap) 144);have mH:=ae (Ka (hs.kept qm.o) hl);clear hs fP ht;go_enter func173,ntmps173
 go_wp2_with fail;refine mH.o.mono ?_;rintro e w1 ⟨⟨v1,rfl,dM⟩,az⟩;have fX:=ae dM;have aL:=ae az;have bW:=az.size;obtain⟨a1,c1,rfl,_,_⟩:=aZ dM;have vK:jgt ((w1.alloc (.cells #[.slice a1 l.length c1] 144)).heap[w1.heap.size]?=some (.cells #[.slice a1 l.length c1] 144 (0,0))):=ae (je2 _ _);have aX:=jeB w1 (.cells #[.slice a1 l.length c1] 144);have hO2:=fX.o.kept (aj w1 (.cells #[.slice a1 l.length c1] 144));have eb:=ae hO2;have ap:=aL.o.trans ((aj w1 (.cells #[.slice a1 l.length c1] 144)).mono bW);have aG:=ae ap;have hlu:(upT l).length=l.length:=tA l
 have hS2:(w1.alloc (.cells #[.slice a1 l.length c1] 144)).ownsRow (w.alloc (.cells #[.slice a l.length cap] 144)).heap.size 9 1 (.slice a1 l.length c1) (upT l).length ((upT l).map encStr):=by
  rw[hlu,<- Fa];exact hO2
 have HSO:=ae (PQ hS2 (by omega) (by omega));clear dM az hO2 ap hS2 hlu;go_wp2_with fail;refine HSO.o.mono ?_;rintro e w3 ⟨rfl,fy,aJ,hk3⟩;have hlu:(upT l).length=l.length:=tA l;have vN:∀ k,(Value.slice a1 l.length c1).ownBlock=some k->k<w1.heap.size:=λk hk=>(fX.o.lt k hk).2
 have Ll:w3.heap[w1.heap.size]?=some (.cells #[.slice a1 l.length c1] 144 (0,0)):=(hk3 w1.heap.size (by omega) (λe=>by have:=vN _ e;omega)).trans vK.o;have HQ3:=ae Ll;obtain⟨Gx,iC⟩:=xL Ll (by simp);have gy:=aJ.size;have aY:=ae (aG.o.trans aJ);have hls:(pV (upT l)).length=l.length:=by rw[ll];exact hlu
 have ho3':w3.ownsRow (w.alloc (.cells #[.slice a l.length cap] 144)).heap.size 9 1 (.slice a1 l.length c1) (pV (upT l)).length ((pV (upT l)).map encStr):=by
  rw[ll];exact fy
 have HCO:=ae (Ce ho3' (by omega) (by omega));rw[JZ (λs hs=>(HT.o s hs).2),<- Fa,tA]at HCO;simp only[List.getElem_toArray,jfY]at Gx;clear fy ho3' aJ hk3 Ll hls hlu;go_wp2_with fail;refine HCO.o.mono ?_;rintro e w4 ⟨⟨v4,rfl,gz⟩,bD,hk4⟩;have hq4:w4.heap[w1.heap.size]?=some (.cells #[.slice a1 l.length c1] 144 (0,0)):=(hk4 w1.heap.size (by omega) (λe=>by have:=vN _ e;omega)).trans HQ3.o;obtain⟨hc4,pt⟩:=xL hq4 (by simp);simp only[List.getElem_toArray,jfY]at hc4;have se:=bD.size;have cL:=ae (aY.o.trans bD);obtain⟨a4,c4,rfl,_,_⟩:=aZ gz;have jdc:=Ff gz hq4 (by decide);have hO5:=Kb (i:=0) (x:=.slice a4 (tuq l).length c4) gz jdc;have hq5:=cQ hq4 0 (.slice a4 (tuq l).length c4);have bq:=ae (cL.o.setCell (p:=⟨w1.heap.size,0,none⟩) (by show _<=w1.heap.size;omega) (.slice a4 (tuq l).length c4));have sk:(w4.setCell ⟨w1.heap.size,0,none⟩ (.slice a4 (tuq l).length c4)).heap.size=w4.heap.size:=World.size_setCell _ _ _
 have HGA:=ae (UP (w:=w4.setCell ⟨w1.heap.size,0,none⟩ (.slice a4 (tuq l).length c4)) (p:=.pointer (some ⟨w1.heap.size,0,none⟩)) (q:=.pointer (some ⟨w.heap.size,0,none⟩)) (bs:=dd l) (λW hg hb=>by
  have iV:Below (w.alloc (.cells #[.slice a l.length cap] 144)).heap.size (w.alloc (.cells #[.slice a l.length cap] 144)) W:=bq.o.trans (hb.mono (by omega));have iz:jgu w W:=qm.o.trans (iV.mono (by omega));refine yK (vu:=.slice a4 (tuq l).length c4) hg (by omega) (by omega) ?_ ?_ (HS.o.kept iz) (λk hk=>by have:=su.o k hk;omega) ?_ (λk hk=>?_) hl HT.o
  ·rw[hb.cell (p:=⟨w1.heap.size,0,none⟩) (by show w1.heap.size<_;omega),an hq5]
   rfl
  ·rw[iV.cell (p:=⟨w.heap.size,0,none⟩) (by show w.heap.size<_;omega)]
   exact HCX.o
  ·exact(Sv.of_own hO5).kept hb
  ·have:=(hO5.lt k hk).2
   omega))
 clear gz bD hk4 hq4 jdc hO5 hq5;generalize dd l=bs at *;generalize tuq l=ul at *;go_wp2_with fail;refine HGA.o.mono ?_;rintro e w6 ⟨⟨v6,rfl,Dc⟩,ct⟩;have oJ:=ae (Dc.low (B:=w.heap.size) (by omega));have fV:=ae (qm.o.trans ((bq.o.trans (ct.mono (by omega))).mono (by omega)));clear Dc ct;go_wp2_with fail;go_ret
 exact⟨⟨_,rfl,oJ.o⟩,fV.o⟩
def yL{w:World}{vl:Value}{l:List (List Nat)}(hs:Sv w vl (cA l))(fP:∀ k,vl.ownBlock=some k->k<w.heap.size)(hl:l.length<=256)(ht:Ts l) :
  Calls prog 130 #[vl] w (ee w (gC l)):=by
 have HE:=ae (Cf hs fP hl ht);have HP:=ae (λ(W:World) (hb:jgu w W)=>Cg (hs.kept hb) (λk hk=>jeY (fP k hk) hb.size) hl ht);have HW:jgt (gC l=if (dd l).length<(plain l).length then dd l else plain l):=rfl;clear hs fP ht;generalize gC l=wb at *;generalize dd l=bl at *;generalize plain l=bp at *;go_enter func130,ntmps130
 go_wp2_with fail;refine HE.o.mono ?_;rintro e w1 ⟨⟨v1,rfl,dM⟩,az⟩;have fX:=ae dM;have aL:=ae az;have bW:=az.size;obtain⟨a1,c1,rfl⟩:=dM.len;clear dM az;go_wp2_with fail;refine(HP.o _ aL.o).mono ?_;rintro e w2 ⟨⟨v2,rfl,eA⟩,ap⟩;have HO1':=ae (fX.o.kept ap);have eb:=ae (eA.low bW);have aG:=ae (aL.o.trans (ap.mono bW));obtain⟨a2,c2,rfl⟩:=eA.len;clear eA ap;by_cases h:bl.length<bp.length
 ·have h':(bl.length:Int)<(bp.length:Int):=by omega
  rw[jey h]at HW;clear h;go_wp2_with fail;go_ret
  rw[HW.o];exact⟨⟨_,rfl,eb.o⟩,aG.o⟩
 ·have h':¬ (bl.length:Int)<(bp.length:Int):=by omega
  rw[jex h]at HW;clear h;go_wp2_with fail;go_ret
  rw[HW.o];exact⟨⟨_,rfl,HO1'.o⟩,aG.o⟩
def yM{w:World}{B e n:Nat}{v:Value}{xs:List Value}(h:w.ownsRow B e 1 v n xs):∀ k,v.ownBlock=some k->k<w.heap.size:=λk hk=>(h.lt k hk).2
def Kc{w:World}{g p q k:Nat}{v vl:Value}{l:jgv}(hg:Gs w g v [])(hp:p<g)(hq:q<g)(gV:w.cell? ⟨p,0,none⟩=some vl)(eP:w.cell? ⟨q,0,none⟩=some (.int .u8 (k:Int)))
  (hs:Sv w vl (aE l)) (fP:∀ k,vl.ownBlock=some k->k<g) (hc:Col k l) :
  Calls prog 124 #[.func (.func 168) #[] #[.pointer (some ⟨g,0,none⟩)],.pointer (some ⟨p,0,none⟩),.pointer (some ⟨q,0,none⟩)] w (jr w g (es k l)):=by
 have CO:=hg.lt;have mH:=ae gV;have lE:=ae eP;have HS:=ae hs;have su:=ae fP;obtain⟨hk,hl,hcells⟩:=hc;have HC:=ae hcells;have hhd:=(zJ (l:=l) hl).1;have HCM:jgt (es k l=jH l++jI k l):=rfl;have GJ:=ae (Cc hg (by simp) hs hl);have hol:=jf l;obtain⟨a,cap,rfl,_,_⟩:=hs.form1;rw[ay]at *;clear hg hs fP hcells eP;obtain rfl | rfl | rfl:k=1∨k=2∨k=3:=by omega
 ·have qu:=lM HC.o
  have iV:=rF qu.1 (by rw[jeE];omega);have HI:=ae qu.1;have HTL:=ae (Bx l);clear qu;go_enter func124,ntmps124
  go_wp2_with fail;refine GJ.o.mono ?_;rintro e w1 ⟨rfl,⟨v1,dP⟩,az⟩;have tR:=ae dP;have aL:=ae az;have WV:=ea mH.o az hp;have WW:=ea lE.o az hq;have Dg:=ae (JK (HS.o.keptB su.o az) hl HC.o);clear dP az gV;go_wp2_with fail;refine Dg.o.mono ?_;rintro e w2 ⟨⟨v2,rfl,eA⟩,ap⟩;have Le:=ae (tR.o.kept ap);have aG:=ae (aL.o.trans (ap.mono (jeV tR.o.lt)));have oN:=ae (tq eA.sv (by rw[jeE];omega) HI.o);clear eA ap WV WW;go_wp2_with fail;refine oN.o.mono ?_;rintro e w3 ⟨⟨v3,rfl,fy⟩,aJ⟩;have aY:=ae (aG.o.trans (aJ.mono (jeV Le.o.lt)));have HP3:=ae (eH (Le.o.kept aJ) fy.sv (by simp only[jfu];omega));clear fy aJ;go_wp2_with fail;refine HP3.o.mono ?_;rintro e w4 ⟨rfl,⟨v4,iE⟩,bD,_⟩;rw[jfu,<- HTL.o,<- HCM.o]at iE;have XH:=ae iE;have cL:=ae (aY.o.trans bD);clear iE bD;go_wp2_with fail;go_end0
  exact⟨rfl,⟨_,XH.o⟩,cL.o⟩
 ·have qu:=jg HC.o
  have iV:=uE qu.1 (by rw[jeE];omega);have HI:=ae qu.1;have HTL:=ae (Bz l);clear qu;go_enter func124,ntmps124
  go_wp2_with fail;refine GJ.o.mono ?_;rintro e w1 ⟨rfl,⟨v1,dP⟩,az⟩;have tR:=ae dP;have aL:=ae az;have WV:=ea mH.o az hp;have WW:=ea lE.o az hq;have Dg:=ae (JM (HS.o.keptB su.o az) hl HC.o);clear dP az gV;go_wp2_with fail;refine Dg.o.mono ?_;rintro e w2 ⟨⟨v2,rfl,eA⟩,ap⟩;have Le:=ae (tR.o.kept ap);have aG:=ae (aL.o.trans (ap.mono (jeV tR.o.lt)));have oN:=ae (Al eA.sv HI.o);clear eA ap WV WW;go_wp2_with fail;refine oN.o.mono ?_;rintro e w3 ⟨⟨v3,rfl,fy⟩,aJ⟩;have aY:=ae (aG.o.trans (aJ.mono (jeV Le.o.lt)));have HP3:=ae (eH (Le.o.kept aJ) fy.sv (by simp only[jfu];omega));clear fy aJ;go_wp2_with fail;refine HP3.o.mono ?_;rintro e w4 ⟨rfl,⟨v4,iE⟩,bD,_⟩;rw[jfu,<- HTL.o,<- HCM.o]at iE;have XH:=ae iE;have cL:=ae (aY.o.trans bD);clear iE bD;go_wp2_with fail;go_end0
  exact⟨rfl,⟨_,XH.o⟩,cL.o⟩
 ·have qu:=kq HC.o
  have iV:=(wP qu.1 (by rw[jeE];omega)).1;have HI:=ae qu.1;have HTL:=ae (BA l);clear qu;go_enter func124,ntmps124
  go_wp2_with fail;refine GJ.o.mono ?_;rintro e w1 ⟨rfl,⟨v1,dP⟩,az⟩;have tR:=ae dP;have aL:=ae az;have WV:=ea mH.o az hp;have WW:=ea lE.o az hq;have Dg:=ae (JL (HS.o.keptB su.o az) hl HC.o);clear dP az gV;go_wp2_with fail;refine Dg.o.mono ?_;rintro e w2 ⟨⟨v2,rfl,eA⟩,ap⟩;have Le:=ae (tR.o.kept ap);have aG:=ae (aL.o.trans (ap.mono (jeV tR.o.lt)));have oN:=ae (yL eA.sv (yM eA) (by rw[jeE];omega) HI.o);clear eA ap WV WW;go_wp2_with fail;refine oN.o.mono ?_;rintro e w3 ⟨⟨v3,rfl,fy⟩,aJ⟩;have aY:=ae (aG.o.trans (aJ.mono (jeV Le.o.lt)));have HP3:=ae (eH (Le.o.kept aJ) fy.sv (by simp only[jfu];omega));clear fy aJ;go_wp2_with fail;refine HP3.o.mono ?_;rintro e w4 ⟨rfl,⟨v4,iE⟩,bD,_⟩;rw[jfu,<- HTL.o,<- HCM.o]at iE;have XH:=ae iE;have cL:=ae (aY.o.trans bD);clear iE bD;go_wp2_with fail;go_end0
  exact⟨rfl,⟨_,XH.o⟩,cL.o⟩
def Aq(r:List Nat×Nat)(w:World)(e:Ending)(w':World):Prop:=(∃ v,e=.returned (.tuple #[v,.int .i64 (r.2:Int)])/\aM w' w.heap.size v r.1)/\jgu w w'
def Kd{k:Nat}{l:jgv}(h:(fT k l).2≠0):(fT k l).1=[]:=by
 unfold fT at h ⊢;split
 ·split
  ·next h1 h2 =>
   rw[jey h1,jey h2]at h;exact absurd rfl h
  ·rfl
 ·rfl
def Fg{k:Nat}{l:jgv}(hf:∀ c∈l,aI c)(h:(fT k l).2=0):Col k l:=by
 unfold fT at h;split at h
 ·next h1 =>
  split at h
  ·next h2=>exact⟨⟨h1.1,h1.2.1⟩,h2.1,λc hc=>(hf c hc).cellk (h1.2.2 c hc)⟩
  ·simp at h
 ·simp at h
def Ar{w:World}{vl:Value}{l:jgv}(hs:Sv w vl (aE l))(fP:∀ k,vl.ownBlock=some k->k<w.heap.size)(hf:∀ c∈l,aI c)(k:Nat) :
  Calls prog 83 #[.int .u8 (k:Int),vl] w (Aq (fT k l) w):=by
 obtain⟨a,cap,rfl,_,_⟩:=hs.form1;have bW:=jeB w (.cells #[.int .u8 (k:Int)] 50);have aX:=jeB (w.alloc (.cells #[.int .u8 (k:Int)] 50)) (.cells #[.slice a (aE l).length cap] 79);have az:=aj w (.cells #[.int .u8 (k:Int)] 50);have ap:=aj (w.alloc (.cells #[.int .u8 (k:Int)] 50)) (.cells #[.slice a (aE l).length cap] 79);have sd:=az.trans (ap.mono (by omega));have gU:=ae sd;have RJ:=ae (JO (hs.kept sd) hf k);have ME:=ae (aV w (.int .u8 (k:Int)) 50);have CR:=ae (aV (w.alloc (.cells #[.int .u8 (k:Int)] 50)) (.slice a (aE l).length cap) 79);have HC1':jgt (((w.alloc (.cells #[.int .u8 (k:Int)] 50)).alloc (.cells #[.slice a (aE l).length cap] 79)).cell? ⟨w.heap.size,0,none⟩=some (.int .u8 (k:Int))):=ae ((ap.cell (p:=⟨w.heap.size,0,none⟩) (by show w.heap.size<_;omega)).trans ME.o);have tP:=ae (Kd (k:=k) (l:=l));have WX:=ae (λh=>Fg (k:=k) (l:=l) hf h);have HWC:=ae (λh=>pG (k:=k) (l:=l) h)
 have HGA:=ae (λ(W1:World) (hw:Below ((w.alloc (.cells #[.int .u8 (k:Int)] 50)).alloc (.cells #[.slice a (aE l).length cap] 79)).heap.size ((w.alloc (.cells #[.int .u8 (k:Int)] 50)).alloc (.cells #[.slice a (aE l).length cap] 79)) W1) (gl:Col k l)=>UN (w:=W1) (p:=.pointer (some ⟨w.heap.size+1,0,none⟩)) (q:=.pointer (some ⟨w.heap.size,0,none⟩)) (bs:=es k l) (λW hg hb=>by
  have lA:=hw.size;have aJ:jgu w W:=sd.trans ((hw.trans (hb.mono lA)).mono (by omega));refine Kc (vl:=.slice a (aE l).length cap) hg (by omega) (by omega) ?_ ?_ (hs.kept aJ) (λk hk=>by have:=fP k hk;omega) gl
  ·rw[hb.cell (p:=⟨w.heap.size+1,0,none⟩) (by show w.heap.size+1<_;omega),hw.cell (p:=⟨w.heap.size+1,0,none⟩) (by show w.heap.size+1<_;omega)]
   have:=CR.o;rwa[bW]at this
  ·rw[hb.cell (p:=⟨w.heap.size,0,none⟩) (by show w.heap.size<_;omega),hw.cell (p:=⟨w.heap.size,0,none⟩) (by show w.heap.size<_;omega)]
   exact HC1'.o))
 clear hs fP hf az ap sd;generalize fT k l=wc at *;obtain⟨bs,er⟩:=wc;simp only at *;generalize (aE l).length=n at *;by_cases he:er=0
 ·subst he
  have gl:=WX.o rfl;have ze:jgt (bs=es k l):=ae (by have:=HWC.o gl;simpa using this);have Lm:=ae gl;clear gl;go_enter func83,ntmps83
  go_wp2_with fail;refine RJ.o.mono ?_;rintro e w1 ⟨rfl,az⟩;have HGA1:=ae (HGA.o w1 az Lm.o);have aL:=ae (gU.o.trans (az.mono (by omega)));have gy:=az.size;clear az;go_wp2_with fail;refine HGA1.o.mono ?_;rintro e w2 ⟨⟨v2,rfl,eA⟩,ap⟩;have eb:=ae (eA.low (B:=w.heap.size) (by omega));have aG:=ae (aL.o.trans (ap.mono (by omega)));clear eA ap;go_wp2_with fail;go_ret2
  rw[ze.o];exact⟨⟨_,rfl,eb.o⟩,aG.o⟩
 ·have dC:((er:Int) != 0)=true:=by simpa using he
  have ze:jgt (bs=[]):=ae (tP.o he);clear he;go_enter func83,ntmps83
  go_wp2_with fail;refine RJ.o.mono ?_;rintro e w1 ⟨rfl,az⟩;have aL:=ae (gU.o.trans (az.mono (by omega)));clear az;go_wp2_with fail;go_ret2
  rw[ze.o];exact⟨⟨_,rfl,aM.nil _ _⟩,aL.o⟩
end Go.Proofs.YtpljdjmpamjkhaaGreatDoor
