import Derived.Test.YtpljdjmpamjkhaaGreatDoorUau
set_option linter.unusedVariables false
set_option linter.unusedSimpArgs false
set_option maxRecDepth 100000
set_option maxHeartbeats 4000000
namespace Go.Proofs.YtpljdjmpamjkhaaGreatDoor
open Go.RowKit Go.Lib
theorem Nw{w w':World}{B e size n g cap:Nat}{xs:List Value}(h:w.ownsRow B e size (.slice (some ⟨g,0,none⟩) n cap) n xs)(hb:w'.heap[g]?=w.heap[g]?):w'.ownsRow B e size (.slice (some ⟨g,0,none⟩) n cap) n xs:=by
 obtain⟨h0,h | ⟨g',cap',cur,h1,h2,h3,h4⟩⟩:=h
 ·exact⟨h0,Or.inl h⟩
 ·cases h1
  exact⟨h0,Or.inr ⟨g,cap,cur,rfl,h2,hb.trans h3,h4⟩⟩
theorem jG{l:List (Nat×Int×List Nat)}{j:Nat}(h:j<l.length):bK (l.take (j+1))=bK (l.take j)++[if l[j].1=0 then 0 else 1]:=by
 unfold bK;rw[jdx h,jdC];rfl
theorem El{l:List (Nat×Int×List Nat)}(h:¬ 0∈bK l):dF l=[0]:=jde h
theorem zM{l:List (Nat×Int×List Nat)}(h:0∈bK l):dF l=[1]++bg (bK l) 1:=jdf h
theorem ju{l:List Nat}(h:∀ x∈l,x<2)(hl:l.length<=256):(bg l 1).length<=32:=by
 rw[eH h hl];unfold by8;omega
theorem Bl{w:World}{g:Nat}{v vl:Value}{bs:List Nat}{l:List (Nat×Int×List Nat)}(hg:Gs w g v bs)(Cw:bs.length<=100000)(hs:Sv w vl (aJ l))(hl:l.length<=256) :
  Calls Tryz.prog 125 #[.func (.func 168) #[] #[.pointer (some ⟨g,0,none⟩)],vl] w (jt w g (bs++dF l)):=by
 obtain⟨i0,hi,cm,hz1',bn⟩:=jdA pL;have HG:=ae hg;have Ck:=hg.lt;have HS:=ae hs;obtain⟨a,cap,rfl,aY,bx⟩:=hs.form1;rw[aG]at *;have hcm':cap<=9223372036854775807:=by unfold maxLen at bx;omega
 have H2:=ae (dW l);have HSH:=ae (ju (dW l) (by rw[bi];exact hl));have HN:=ae (El (l:=l));have HY:=ae (zM (l:=l));obtain⟨D,hD⟩:∃ D,bK l=D:=⟨_,rfl⟩;have hDl:D.length=l.length:=by rw[← hD,bi]
 have PG:jfb (∀ k (h:k<l.length),D[k]?=some (if l[k].1=0 then 0 else 1)):=ae (fun k h=>by rw[← hD];simp[bK,h]);rw[hD]at H2 HSH HN HY;have HD:=ae hD;have kM:=ae hDl;clear hs bx hD hDl hg;go_enter Tryz.func125,Tryz.ntmps125
 go_wp2_with (first | (refine jek _ rfl _ _ 142 rfl w.heap.size 92 i0 (.int .u64 0) 1 Tryz.underlying142 hi cm hz1' .i64 .i64 _ _ l.length rfl rfl ?m1 ?m2 ?m3 ?m4 ?m5 ?_))
 case m1=>rfl
 case m2=>rfl
 case m3=>rw[bn];omega
 case m4=>unfold maxLen;omega
 case m5=>omega
 intro w4 gF iN;have bw:Below w.heap.size w w4:=(jdg _ _).grown iN (jdh _) (fun k hk=>by cases hk)
 have ho4':w4.ownsRow w.heap.size 92 1 (.slice (some ⟨w.heap.size,0,none⟩) l.length l.length) l.length (aF .u64 (fill D 0)):=by
  rw[oF,kM.o,← jZ];simpa using gF
 have eR:=ae ho4';have ce:=ae bw;clear gF iN bw ho4';go_wp2_with fail;go_loopw [5,13] (fun o i wr=>∃ k:Nat,o=.bool (decide (0∈bK (l.take k)))/\i=.int .i64 (k:Int)/\k<=l.length/\wr.ownsRow w.heap.size 92 1 (.slice (some ⟨w.heap.size,0,none⟩) l.length l.length) l.length (aF .u64 (fill D k))/\Below w.heap.size w wr) (fun _ i _=>l.length-(intOf i).toNat)
 case atStart=>exact⟨0,rfl,rfl,by omega,eR.o,ce.o⟩
 case round =>
  obtain⟨k,rfl,rfl,hk,how,az⟩:=hrel;have HB:=ae az;have HO:=ae how;have bP:=az.size;clear az how;by_cases aC:k<l.length
  ·have hkD:k<D.length:=by rw[kM.o];exact aC
   have hval:D[k]=if l[k].1=0 then 0 else 1:=by
    have:=PG.o k aC;rw[List.getElem?_eq_getElem hkD]at this;exact Option.some.inj this
   obtain⟨b,off,rfl,hb,dR⟩:=(HS.o.kept HB.o).at1 (cM aC);have jT:k<(fill D k).length:=by rw[kU (by omega)];exact hkD
   have tu:=ae (qO hkD);have rQ:=ae (jG aC);have HVF:=ae (lG l[k]);have HVN:=ae (sw l[k]);have fV:=HO.o;have Fz:=(fV.cellAt k (by omega)).trans (bS jT);have FA:=fV.frozenAt k;have hST:=fV.stored k (.int .u64 (D[k]:Int));rw[ki,tu.o]at hST;have cT:=ae hST;have Pq:=(fV.lt w.heap.size rfl).2;clear hST fV;generalize l[k]=c at *;generalize (fill D k)[k]=y at *;generalize D[k]=z at *;by_cases h0:c.1=0
   ·rw[HVN.o h0]at dR
    rw[jdf h0]at hval rQ;subst hval;have HFl:jfb (decide (0∈bK (l.take (k+1)))=true):=ae (jdy (by rw[rQ.o];simp));clear HVF HVN h0;have Pv:=ae (xd false);generalize decide (0∈bK (l.take k))=fl at *;cases fl
    ·go_wp2_with fail
     refine(Pv.o _).mono ?_;rintro e w5 ⟨rfl,rfl⟩;go_wp2_with fail;go_roundw
     case rel=>exact⟨k+1,by rw[HFl.o],by go_num,by omega,cT.o.1,cN HB.o (jdh _) _⟩
     case measure=>simp[intOf];omega
    ·go_wp2_with fail
     refine(Pv.o _).mono ?_;rintro e w5 ⟨rfl,rfl⟩;go_wp2_with fail;go_roundw
     case rel=>exact⟨k+1,by rw[HFl.o],by go_num,by omega,cT.o.1,cN HB.o (jdh _) _⟩
     case measure=>simp[intOf];omega
   ·obtain⟨tt,uu,hvv⟩:=HVF.o h0
    rw[hvv]at dR;rw[jde h0]at hval rQ;subst hval;have HFl:jfb (decide (0∈bK (l.take (k+1)))=decide (0∈bK (l.take k))):=ae (by rw[rQ.o];simp);clear HVF HVN h0 hvv;have Pv:=ae (xd true);generalize decide (0∈bK (l.take k))=fl at *;cases fl
    ·go_wp2_with fail
     refine(Pv.o _).mono ?_;rintro e w5 ⟨rfl,rfl⟩;go_wp2_with fail;go_roundw
     case rel=>exact⟨k+1,by rw[HFl.o],by go_num,by omega,cT.o.1,cN HB.o (jdh _) _⟩
     case measure=>simp[intOf];omega
    ·go_wp2_with fail
     refine(Pv.o _).mono ?_;rintro e w5 ⟨rfl,rfl⟩;go_wp2_with fail;go_roundw
     case rel=>exact⟨k+1,by rw[HFl.o],by go_num,by omega,cT.o.1,cN HB.o (jdh _) _⟩
     case measure=>simp[intOf];omega
  ·obtain rfl:k=l.length:=by omega
   have e:fill D l.length=D:=by
    have:=qN D;rwa[kM.o]at this
   rw[e]at HO;rw[jdp,HD.o];have HGr:=ae (HG.o.kept HB.o);clear e;by_cases h0:0∈D
   ·rw[jdy h0]
    have HHB:=ae (HY.o h0);have Cu:=ae (eW (HGr.o.kept (ak wr (.cells #[.int .u8 1] 5))) (cF wr 1).sv (by simp;omega));have cY:(wr.alloc (.cells #[.int .u8 1] 5)).heap.size=wr.heap.size+1:=jdi _ _;clear HN HY h0;go_wp2_with fail;refine Cu.o.mono ?_;rintro e w6 ⟨rfl,⟨v6,LP⟩,dP,UH⟩;have Pq:=(HO.o.lt w.heap.size rfl).2
    have Ag:dD w6 w.heap.size (.slice (some ⟨w.heap.size,0,none⟩) l.length l.length) D:=by
     unfold dD;rw[kM.o];refine Nw (bI HO.o (ak wr (.cells #[.int .u8 1] 5))) (UH w.heap.size (by omega) (by omega) (fun e=>?_));have:=(HG.o.2.lt w.heap.size e).2;omega
    have FB:=dP.size;have kI:=ae LP;have jc:=ae ((HB.o.mono (jdG Ck)).trans (((ak wr (.cells #[.int .u8 1] 5)).mono (by omega)).trans dP));have HP6:=ae (zI Ag.sv H2.o);clear LP dP UH Ag;go_wp2_with fail;refine HP6.o.mono ?_;rintro e w7 ⟨⟨v7,rfl,XL⟩,jk⟩;have HP7:=ae (eW (kI.o.kept jk) XL.sv (by have:=HSH.o;simp;omega));have ic:=ae (jc.o.trans (jk.mono (by omega)));clear XL jk;go_wp2_with fail;refine HP7.o.mono ?_;rintro e w8 ⟨rfl,⟨v8,hg8⟩,kH,_⟩;rw[jdw]at hg8;have HG8:=ae hg8;have qo:=ae (ic.o.trans kH);clear hg8 kH;go_wp2_with fail;go_end0
    rw[HHB.o];exact⟨rfl,⟨_,HG8.o⟩,qo.o⟩
   ·rw[jds h0]
    have HHB:=ae (HN.o h0);have Cu:=ae (eW (HGr.o.kept (ak wr (.cells #[.int .u8 0] 5))) (cF wr 0).sv (by simp;omega));have cY:(wr.alloc (.cells #[.int .u8 0] 5)).heap.size=wr.heap.size+1:=jdi _ _;clear HN HY h0;go_wp2_with fail;refine Cu.o.mono ?_;rintro e w6 ⟨rfl,⟨v6,LP⟩,dP,UH⟩;have kI:=ae LP;have jc:=ae ((HB.o.mono (jdG Ck)).trans (((ak wr (.cells #[.int .u8 0] 5)).mono (by omega)).trans dP));clear LP dP UH;go_wp2_with fail;go_end0
    rw[HHB.o];exact⟨rfl,⟨_,kI.o⟩,jc.o⟩
def dx(z:Value)(l:List Value)(i:Nat):List Value:=l.take i++List.replicate (l.length-i) z
theorem mF(z:Value)(l:List Value):dx z l 0=List.replicate l.length z:=by simp[dx]
theorem oL(z:Value)(l:List Value):dx z l l.length=l:=by simp[dx]
theorem iv{z:Value}{l:List Value}{i:Nat}(h:i<=l.length):(dx z l i).length=l.length:=by simp[dx];omega
theorem mc{z:Value}{l:List Value}{i:Nat}(h:i<l.length):(dx z l i).set i l[i]=dx z l (i+1):=by
 unfold dx
 rw[List.set_append_right _ _ (by simp;omega),jdo,jeg (by omega),jeH,show l.length-i=(l.length-(i+1))+1 by omega,
  List.replicate_succ,jdr,jdx h,jdw]
 rfl
theorem Sv.keptB{W W':World}{B:Nat}{v:Value}{xs:List Value}(h:Sv W v xs)(hv:∀ k,v.ownBlock=some k->k<B)(hb:Below B W W'):Sv W' v xs:=by
 obtain⟨a,cap,rfl,h1,h2,h3,h4⟩:=h;refine⟨a,cap,rfl,h1,h2,h3,fun h0=>?_⟩;obtain⟨b,off,rfl,h5,h6⟩:=h4 h0;have hb':b<B:=hv b rfl;exact⟨b,off,rfl,jdD h5 hb.size,fun j x hj=>(hb.cell (p:=⟨b,off+j,none⟩) hb').trans (h6 j x hj)⟩
theorem sZ(W:World)(o:Obj):Below W.heap.size W (W.drew.alloc o):=by
 have h1:Below W.heap.size W W.drew:=⟨rfl,rfl,rfl,jdh _,fun _ _=>rfl⟩;exact h1.alloc (jdh _) _
theorem Jg{s:List Nat}(hb:Bs s)(hl:s.length<=140737488355328)(W:World):∃ g cap W',(convert 9 30 (.string (am s))).run Tryz.prog W=.ok (.slice (some ⟨g,0,none⟩) s.length cap) W'/\Sv W' (.slice (some ⟨g,0,none⟩) s.length cap) (aF .u8 s)/\Below W.heap.size W W'/\W'.heap.size=W.heap.size+1:=by
 have hr:=run_bytes_of_string (P:=Tryz.prog) W 9 30 5 (am s) Tryz.underlying9 Tryz.underlying30 Tryz.underlying5;rw[bm]at hr;refine⟨_,_,_,hr,?_,sZ _ _,?_⟩
 ·have gL:=grownCap_ge W s.length 0 5
  have oV:=grownCap_le_maxLen W s.length 0 5 (by unfold maxLen;omega);refine⟨_,_,by rw[ap],by rw[ap];exact gL,oV,fun e=>by(cases e),fun h0=>⟨_,_,rfl,by rw[jdi];show W.heap.size<W.heap.size+1;omega,fun j x hj=>?_⟩⟩
  have hj':j<s.length:=by
   have:=(List.getElem?_eq_some_iff.1 hj).1;rwa[ap]at this
  rw[bS hj']at hj;have hh:(W.drew.alloc (.cells (bytesRow (am s) (grownCap W s.length 0 5)) 5 ((bytesRow (am s) (grownCap W s.length 0 5)).size,(bytesRow (am s) (grownCap W s.length 0 5)).size+1))).heap[W.heap.size]?=some (.cells (bytesRow (am s) (grownCap W s.length 0 5)) 5 ((bytesRow (am s) (grownCap W s.length 0 5)).size,(bytesRow (am s) (grownCap W s.length 0 5)).size+1)):=jdH W.drew _;rw[jdK,ay hh,← hj];unfold bytesRow am;have hx:s[j]<256:=hb _ (jdl hj');rw[Array.getElem?_append_left (by simpa using hj')];simp[hj',jd7 hx]
 ·rw[jdi]
  rfl
theorem gz{l:List Int}(hi:Is l)(hl:l.length<=256):(cP l).length<=5131:=(jY hi hl).1
theorem Em{w:World}{v:Value}{l:List Int}(hs:Sv w v (aK l))(hl:l.length<=256)(hi:Is l):Calls Tryz.prog 231 #[v] w (dw w (cnt l)):=by
 have HB:=ae (sU hs hl hi);have bR:=gz hi hl;have mY:jfb (cnt l=uv (cP l).length++cP l):=rfl;clear hs hi;generalize cnt l=cn at *;generalize cP l=bs at *;have nk:=bJ (n:=bs.length) (by omega);have HP:=ae (dI bs.length (by omega));go_enter Tryz.func231,Tryz.ntmps231
 go_wp2_with fail;refine HB.o.mono ?_;rintro e w1 ⟨⟨v1,rfl,eI⟩,aH⟩;have fC:=ae eI;have aR:=ae aH;have cY:=aH.size;obtain⟨a1,c1,rfl⟩:=eI.len;clear eI aH;go_wp2_with fail;refine(HP.o _).mono ?_;rintro e w2 ⟨⟨v2,rfl,fx⟩,aE⟩;have du:=ae (fx.low cY);have aO:=ae aE;have bn:=aE.size;clear fx aE;go_wp2_with (first | (at_builtin;refine ax rfl _ _ rfl w.heap.size _ _ (uv bs.length) bs rfl du.o rfl (fC.o.kept aO.o).sv ?c1 ?c2 ?_))
 case c1=>omega
 case c2=>omega
 intro v4 w4 o4 b4;have eR:=ae o4;have ce:=ae ((aR.o.trans (aO.o.mono cY)).trans b4);clear o4 b4;go_wp2_with fail;go_ret
 rw[mY.o];exact⟨⟨_,rfl,eR.o⟩,ce.o⟩
theorem kZ{l:List (List Nat)}{k:Nat}(h:k<l.length):(l.take (k+1)).flatten=(l.take k).flatten++l[k]:=by
 rw[jdx h,jeW];simp
theorem iX{l:List (List Nat)}(ht:Ts l)(hl:l.length<=256)(k:Nat):(l.take k).flatten.length<=16384:=by
 have h:=(ow (l:=l.take k) fun s hs=>ht s (jd3 hs)).1;rw[jdo]at h;omega
theorem tW{w:World}{g:Nat}{v vl:Value}{bs:List Nat}{l:List (List Nat)}(hg:Gs w g v bs)(Cw:bs.length<=100000)(hs:Sv w vl (cA l))(fW:∀ k,vl.ownBlock=some k->k<g)(hl:l.length<=256)(ht:Ts l) :
  Calls Tryz.prog 206 #[.func (.func 168) #[] #[.pointer (some ⟨g,0,none⟩)],vl] w (jt w g (bs++fA l)):=by
 obtain⟨i0,hi,cm,hz1',bn⟩:=jdA zx;have HG:=ae hg;have Ck:=hg.lt;have HS:=ae hs;have HT:=ae ht;have rT:=ae fW;obtain⟨a,cap,rfl,aY,bx⟩:=hs.form1;rw[dG]at *;have hcm':cap<=9223372036854775807:=by unfold maxLen at bx;omega
 have Zl:jfb (fA l=cnt (ea l)++l.flatten):=rfl;have LG:=ae (fun k=>iX ht hl k);obtain⟨D,hD⟩:∃ D,ea l=D:=⟨_,rfl⟩;have hDl:D.length=l.length:=by rw[← hD,bH]
 have HDI:jfb (Is D):=ae (hD ▸ gS ht);have PG:jfb (∀ k (h:k<l.length),(aK D)[k]?=some (.int .i64 ((am l[k]).size:Int))):=ae (fun k h=>by rw[← hD];simp[ea,aK,h,bm]);rw[hD]at Zl;have kM:=ae hDl
 have eQ:(cnt D).length<=5141:=by
  have h1:=gz HDI.o (by omega);have h2:=bJ (n:=(cP D).length) (by omega);unfold cnt;rw[jdj];omega
 clear hs bx hD hDl hg ht fW;go_enter Tryz.func206,Tryz.ntmps206
 go_wp2_with (first | (refine jek _ rfl _ _ 143 rfl w.heap.size 2 i0 (.int .i64 0) 1 Tryz.underlying143 hi cm hz1' .i64 .i64 _ _ l.length rfl rfl ?m1 ?m2 ?m3 ?m4 ?m5 ?_))
 case m1=>rfl
 case m2=>rfl
 case m3=>rw[bn];omega
 case m4=>unfold maxLen;omega
 case m5=>omega
 intro w4 gF iN;have bw:Below w.heap.size w w4:=(jdg _ _).grown iN (jdh _) (fun k hk=>by cases hk)
 have ho4':w4.ownsRow w.heap.size 2 1 (.slice (some ⟨w.heap.size,0,none⟩) l.length l.length) l.length (dx (.int .i64 0) (aK D) 0):=by
  rw[mF,ct,kM.o,← jeK];simpa using gF
 have eR:=ae ho4';have ce:=ae bw;clear gF iN bw ho4';go_wp2_with fail;go_loopw [14] (fun i wr=>∃ k:Nat,i=.int .i64 (k:Int)/\k<=l.length/\wr.ownsRow w.heap.size 2 1 (.slice (some ⟨w.heap.size,0,none⟩) l.length l.length) l.length (dx (.int .i64 0) (aK D) k)/\Below w.heap.size w wr) (fun i _=>l.length-(intOf i).toNat)
 case atStart=>exact⟨0,rfl,by omega,eR.o,ce.o⟩
 case round =>
  obtain⟨k,rfl,hk,how,az⟩:=hrel;have HB:=ae az;have HO:=ae how;have bP:=az.size;clear az how;by_cases aC:k<l.length
  ·have hkD:k<(aK D).length:=by rw[ct,kM.o];exact aC
   have hval:(aK D)[k]=.int .i64 ((am l[k]).size:Int):=by
    have:=PG.o k aC;rw[List.getElem?_eq_getElem hkD]at this;exact Option.some.inj this
   obtain⟨b,off,rfl,hb,dR⟩:=(HS.o.kept HB.o).at1 (cL aC);have jT:k<(dx (.int .i64 0) (aK D) k).length:=by rw[iv (by omega)];exact hkD
   have tu:=ae (mc (z:=.int .i64 0) hkD);have fV:=HO.o;have Fz:=(fV.cellAt k (by omega)).trans (List.getElem?_eq_getElem jT);have FA:=fV.frozenAt k;have hST:=fV.stored k (.int .i64 ((am l[k]).size:Int));rw[← hval,tu.o]at hST;rw[hval]at hST;have cT:=ae hST;have Pq:=(fV.lt w.heap.size rfl).2;have jx:(am l[k]).size<=64:=by rw[bm];exact(HT.o _ (jdl aC)).1
   rw[en]at dR;clear hST fV hval;generalize (dx (.int .i64 0) (aK D) k)[k]=y at *;generalize am l[k]=S at *;go_wp2_with fail;go_roundw
   case rel=>exact⟨k+1,by go_num,by omega,cT.o.1,cN HB.o (jdh _) _⟩
   case measure=>simp[intOf];omega
  ·obtain rfl:k=l.length:=by omega
   have e:dx (.int .i64 0) (aK D) l.length=aK D:=by
    have:=oL (.int .i64 0) (aK D);rwa[ct,kM.o]at this
   rw[e]at HO
   have ho':bv wr w.heap.size (.slice (some ⟨w.heap.size,0,none⟩) l.length l.length) D:=by
    unfold bv;rw[kM.o];exact HO.o
   have HCT:=ae (Em ho'.sv (by rw[kM.o];exact hl) HDI.o);have HGr:=ae (HG.o.kept HB.o);clear e ho' HO;go_wp2_with fail;refine HCT.o.mono ?_;rintro e w6 ⟨⟨v6,rfl,Ag⟩,dP⟩;have HP6:=ae (eW (HGr.o.kept dP) Ag.sv (by omega));have jc:=ae (HB.o.trans (dP.mono bP));have FB:=dP.size;clear Ag dP;go_wp2_with fail;refine HP6.o.mono ?_;rintro e w7 ⟨rfl,⟨v7,hg7⟩,jk,_⟩;have HG7:=ae hg7;have ic:=ae ((jc.o.mono (jdG Ck)).trans jk);clear hg7 jk;go_wp2_with fail;go_loopw [31] (fun i wr=>∃ k:Nat,i=.int .i64 (k:Int)/\k<=l.length/\(∃ v',Gs wr g v' (bs++cnt D++(l.take k).flatten))/\Below g w wr) (fun i _=>l.length-(intOf i).toNat)
   case atStart=>exact⟨0,rfl,by omega,⟨v7,by simpa using HG7.o⟩,ic.o⟩
   case round =>
    obtain⟨k,rfl,hk,⟨vq,hgq⟩,uP⟩:=hrel;have HGQ:=ae hgq;have oX:=ae uP;have yD:=uP.size;clear hgq uP;by_cases aC:k<l.length
    ·obtain⟨b,off,rfl,hb,dR⟩:=(HS.o.keptB rT.o oX.o).at1 (cL aC)
     obtain⟨Kc,XH⟩:=HT.o _ (jdl aC);obtain⟨gc,cc,wc,uL,LQ,hbc,hzc⟩:=Jg XH (by omega) wr;rw[en]at dR;have VO:=ae (kZ aC);have jT:=LG.o k;have HPQ:=ae (eW (HGQ.o.kept hbc) LQ (by simp only[jdj];omega));have HBC:=ae (oX.o.trans (hbc.mono (jdq (jdG HGQ.o.lt) (jdh _))));have fO:g<wr.heap.size:=HGQ.o.lt;clear LQ hbc XH Kc;generalize am l[k]=S at *;generalize l[k]=x at *;go_wp2_with fail;refine HPQ.o.mono ?_;rintro e w8 ⟨rfl,⟨v8,hg8⟩,kH,_⟩;rw[jdw,← VO.o]at hg8;have HG8:=ae hg8;have qo:=ae (HBC.o.trans kH);clear hg8 kH;go_wp2_with fail;go_roundw
     case rel=>exact⟨k+1,by go_num,by omega,⟨_,HG8.o⟩,qo.o⟩
     case measure=>simp[intOf];omega
    ·obtain rfl:k=l.length:=by omega
     rw[jdp,jdw,← Zl.o]at HGQ;go_wp2_with fail;go_end0
     exact⟨rfl,⟨_,HGQ.o⟩,oX.o⟩
open Go.Shelf
theorem Tb:∀{a b:List UInt8},a<b↔a.map UInt8.toNat<b.map UInt8.toNat
 | [],[]=>by simp
 | [],y::t=>by simp
 | x::s,[]=>by simp
 | x::s,y::t=>by
  have ih:=Tb (a:=s) (b:=t);have h3:(x::s<y::t)↔(x<y∨x=y/\s<t):=List.cons_lt_cons_iff;have h4:(x.toNat::s.map UInt8.toNat<y.toNat::t.map UInt8.toNat)↔(x.toNat<y.toNat∨x.toNat=y.toNat/\s.map UInt8.toNat<t.map UInt8.toNat):=List.cons_lt_cons_iff;have h5:x=y↔x.toNat=y.toNat:=⟨fun e=>by rw[e],fun e=>UInt8.toNat_inj.1 e⟩;rw[jdQ,jdQ,h3,h4,ih,UInt8.lt_iff_toNat_lt,h5]
theorem Tc{x y:List UInt8}(h1:x≠y)(h2:¬ y<x):x<y:=by
 rcases List.le_iff_lt_or_eq.1 (show x<=y from h2)with h | h
 ·exact h
 ·exact absurd h h1
def qe(l:List (List UInt8)):List (List UInt8):=l.mergeSort fun x y=>decide (x<=y)
theorem ld(l:List (List UInt8)):(qe l).length=l.length:=List.length_mergeSort l
theorem mG{l:List (List UInt8)}:∀ m,m<=l.length->∀ z,z∈compactUpTo l.toArray m↔z∈l.take m
 | 0,_,z=>by simp[compactUpTo]
 | m+1,hm,z=>by
  have ih:=mG (l:=l) m (by omega);have hg:l.toArray[m]! = l[m]:=by simp[show m<l.length by omega]
  rw[compactUpTo_succ,jdO,ih z,jdx (by omega),jdO,hg];by_cases hk:keeps l.toArray m=true
  ·rw[jdf hk]
  ·rw[jde hk]
   constructor
   ·rintro(h | h)
    ·exact Or.inl h
    ·simp at h
   ·rintro(h | h)
    ·exact Or.inl h
    ·left
     have h':z=l[m]:=by simpa using h
     unfold keeps at hk;simp only[jd2]at hk;have eS:l.toArray[m-1]! = l[m-1]:=by simp[show m-1<l.length by omega]
     rw[hg,eS]at hk;have hm0:m≠0:=fun e=>hk (Or.inl e)
     have he:l[m]=l[m-1]:=Decidable.byContradiction fun e=>hk (Or.inr e)
     rw[h',he];exact jfa.2 ⟨m-1,by omega,rfl⟩
theorem mW{l:List (List UInt8)}(hs:l.Pairwise (·<=·)):∀ m,m<=l.length->(compactUpTo l.toArray m).Pairwise (· < ·)
 | 0,_=>by simp[compactUpTo]
 | m+1,hm=>by
  have ih:=mW hs m (by omega);have hg:l.toArray[m]! = l[m]:=by simp[show m<l.length by omega]
  rw[compactUpTo_succ,hg];by_cases hk:keeps l.toArray m=true
  ·rw[jdf hk]
   refine List.pairwise_append.2 ⟨ih,by simp,fun a ha b hb=>?_⟩;have hb':b=l[m]:=by simpa using hb
   subst hb';have h1:=(mG m (by omega) a).1 ha;obtain⟨j,hj,rfl⟩:=jfa.1 h1;have hjm:j<m:=(by omega);unfold keeps at hk;simp only[jd2]at hk;have eS:l.toArray[m-1]! = l[m-1]:=by simp[show m-1<l.length by omega]
   rw[hg,eS]at hk
   have h2:l[m]≠l[m-1]:=by
    rcases hk with h | h
    ·omega
    ·exact h
   have h3:l[m-1]<=l[m]:=jeT.1 hs (m-1) m (by omega) (by omega) (by omega)
   have h4:l[j]<=l[m-1]:=by
    rcases jdJ j (m-1)with h | h
    ·exact jeT.1 hs j (m-1) (by omega) (by omega) h
    ·have:j=m-1:=by omega
     subst this;exact List.le_refl _
   have h5:l[m-1]<l[m]:=Tc (fun e=>h2 e.symm) h3;exact List.lt_of_le_of_lt h4 h5
  ·rw[jde hk,jdB]
   exact ih
theorem Bm(l:List (List UInt8)):(Lib.compact (qe l)).map (fun s=>s.map UInt8.toNat)=tuq (l.map fun s=>s.map UInt8.toNat):=by
 have hs:(qe l).Pairwise (·<=·):=by
  have:=List.pairwise_mergeSort (le:=fun x y:List UInt8=>decide (x<=y)) (fun a b c h1 h2=>by simp only[jd2]at *;exact List.le_trans h1 h2) (fun a b=>by simp only[Bool.or_eq_true,jd2];exact List.le_total a b) l;exact this.imp (fun h=>by simpa using h)
 refine tE ?_ (wl _) (fun z=>?_)
 ·exact List.pairwise_map.2 ((mW hs _ (jdh _)).imp fun h=>Tb.1 h)
 ·rw[jh]
  have hm:=fun y=>mG (l:=qe l) (qe l).length (jdh _) y
  rw[jdp]at hm;unfold Lib.compact;simp only[jdE,hm];constructor
  ·rintro⟨y,hy,rfl⟩
   exact⟨y,List.mem_mergeSort.1 hy,rfl⟩
  ·rintro⟨y,hy,rfl⟩
   exact⟨y,List.mem_mergeSort.2 hy,rfl⟩
def upT(l:List (List Nat)):List (List UInt8):=l.map fun s=>s.map Nat.toUInt8
def dnT(l:List (List UInt8)):List (List Nat):=l.map fun s=>s.map UInt8.toNat
theorem En(l:List (List Nat)):cA l=(upT l).map encStr:=by
 unfold cA upT;rw[jdT];rfl
theorem up_dn(u:List (List UInt8)):upT (dnT u)=u:=by
 unfold upT dnT;rw[jdT];conv=>rhs;rw[← jel u]
 apply jef
 intro s _;simp only[Function.comp,jdT,id];conv=>rhs;rw[← jel s]
 apply jef
 intro x _;simp
theorem dn_up{l:List (List Nat)}(h:∀ s∈l,Bs s):dnT (upT l)=l:=by
 unfold upT dnT;rw[jdT];conv=>rhs;rw[← jel l]
 apply jef
 intro s hs;exact fo (h s hs)
theorem ta(l:List (List Nat)):(upT l).length=l.length:=jdk _
theorem Jh{l:List (List Nat)}(h:∀ s∈l,Bs s):Lib.compact (qe (upT l))=upT (tuq l):=by
 have h1:=Bm (upT l);have h2:(upT l).map (fun s=>s.map UInt8.toNat)=l:=dn_up h;rw[h2]at h1;rw[← h1];exact(up_dn _).symm
theorem Sv.texts{W:World}{b off n cap:Nat}{l:List (List Nat)}(h:Sv W (.slice (some ⟨b,off,none⟩) n cap) (cA l)):∀ j,j<(l.map am).length->W.cell? ⟨b,off+j,none⟩=some (.string ((l.map am).getD j ByteArray.empty)):=by
 intro j hj;rw[jdk]at hj;obtain⟨b',off',h1,_,h2⟩:=h.at1 (cL hj);cases h1
 rw[h2,en];simp[List.getD_eq_getElem?_getD,hj]
theorem Ji{w:World}{v:Value}{l:List (List Nat)}(hs:Sv w v (cA l))(hl:l.length<=256) :
  Calls Tryz.prog 207 #[v] w fun e w'=>(∃ v',e=.returned v'/\eF w' w.heap.size v' l)/\Below w.heap.size w w':=by
 have yy:=hs;obtain⟨a,cap,rfl,h1,h2,h3,h4⟩:=hs;rw[dG]at *;cases a with
 | none =>
  have hc:=h3 rfl;have qn:l=[]:=jdF (by omega);subst qn;refine Calls.mono (AnyG.slices_Clone_string_nil lu _ _ w) ?_;rintro e w' ⟨rfl,rfl⟩;exact⟨⟨_,rfl,eF.nil _ _⟩,jdg _ _⟩
 | some a =>
  rcases jd4 l.length with h0 | h0
  ·have qn:l=[]:=jdF h0
   subst qn;refine Calls.mono (AnyG.slices_Clone_string_zero lu a cap w) ?_;rintro e w' ⟨v',rfl,ho,_,hb⟩;exact⟨⟨_,rfl,ho⟩,hb⟩
  ·obtain⟨b,off,h5,h6,h7⟩:=h4 h0
   cases h5
   refine Calls.mono (AnyG.slices_Clone_string lu b off l.length cap (l.map am) w (by rw[jdk];omega) (by omega) yy.texts) ?_;rintro e w' ⟨v',rfl,ho,_,hb⟩;rw[jdZ (by rw[jdk];omega),jdT]at ho;exact⟨⟨_,rfl,ho⟩,hb⟩
theorem ry{α : Type}[Inhabited α]{enc:α->Value}{w:World}{g q k:Nat}{d:Array α}(h:k≠g):(Sort.putRow enc (Sort.ahead w q) g 0 d).heap[k]?=w.heap[k]?:=by
 simp[Sort.putRow,Sort.mapBlock,Sort.ahead,Array.getElem?_modify,Ne.symm h]
theorem Nx{w:World}{B:Nat}{v:Value}{zs:List (List UInt8)}(h:w.ownsRow B 9 1 v zs.length (zs.map encStr))(hl:zs.length<=256)(hB:B<=w.heap.size) :
  Calls Tryz.prog 208 #[v] w fun e w'=>e=.returned (.tuple #[])/\w'.ownsRow B 9 1 v zs.length ((qe zs).map encStr)/\Below B w w'/\∀ k,k<w.heap.size->v.ownBlock≠some k->w'.heap[k]?=w.heap[k]?:=by
 by_cases hv:v=.slice none 0 0
 ·subst hv
  have qn:zs=[]:=by
   rcases h.2 with ⟨_,h2⟩ | ⟨g,cap,cur,h2,_⟩
   ·exact jdF h2
   ·cases h2
  subst qn;refine Calls.mono (AnyM.slices_Sort_string_none qV none 0 w) ?_;rintro e w' ⟨rfl,rfl⟩;exact⟨rfl,(by unfold qe;rw[List.mergeSort_nil];exact h),jdg _ _,fun _ _ _=>rfl⟩
 ·obtain⟨g,cap,rfl,hb,hg,hc,hm,bR,hH⟩:=holds_of_ownsRow (enc:=encStr) h hv
  refine Calls.mono (AnyM.slices_Sort_string qV g 0 cap zs w hH hg (by omega)) ?_;rintro e w' ⟨rfl,n,os,rfl⟩;have h1:=ownsRow_putRow (enc:=encStr) (q:=n) (k:=zs.length) (ys:=qe zs) h (ld zs) (jdh _);have aH:=below_putRow (enc:=encStr) (q:=n) (d:=(qe zs).toArray) (jdg B w) hb;refine⟨rfl,?_,aH.trans (ko os (by have:=aH.size;omega)),fun k hk fQ=>?_⟩
  ·rw[jdZ (by rw[ld];omega)]at h1
   exact bI h1 (ko os (jdh _))
  ·have hkg:k≠g:=fun e=>fQ (by rw[e];rfl)
   have h2:=ry (enc:=encStr) (w:=w) (q:=n) (d:=(qe zs).toArray) hkg;have h3:=aH.size;exact((ko (w:=Sort.putRow encStr (Sort.ahead w n) g 0 (qe zs).toArray) os (jdh _)).block k (jdD hk h3)).trans h2
theorem Bo{w:World}{B:Nat}{v:Value}{zs:List (List UInt8)}(h:w.ownsRow B 9 1 v zs.length (zs.map encStr))(hl:zs.length<=256)(hB:B<=w.heap.size) :
  Calls Tryz.prog 209 #[v] w fun e w'=>(∃ v',e=.returned v'/\w'.ownsRow B 9 1 v' (Lib.compact zs).length ((Lib.compact zs).map encStr))/\Below B w w'/\∀ k,k<w.heap.size->v.ownBlock≠some k->w'.heap[k]?=w.heap[k]?:=by
 by_cases hv:v=.slice none 0 0
 ·subst hv
  have qn:zs=[]:=by
   rcases h.2 with ⟨_,h2⟩ | ⟨g,cap,cur,h2,_⟩
   ·exact jdF h2
   ·cases h2
  subst qn;refine Calls.mono (AnyG.slices_Compact_string_empty pg none 0 w) ?_;rintro e w' ⟨rfl,rfl⟩;exact⟨⟨_,rfl,h⟩,jdg _ _,fun _ _ _=>rfl⟩
 ·obtain⟨g,cap,rfl,hb,hg,hc,hm,bR,hH⟩:=holds_of_ownsRow (enc:=encStr) h hv
  have oV:=Lib.compact_length_le zs;refine Calls.mono (AnyG.slices_Compact_string pg g 0 cap zs w hH (by omega) (by omega)) ?_;rintro e w' ⟨rfl,q,rfl⟩;have h1:=ownsRow_putRow (enc:=encStr) (q:=q) (k:=(Lib.compact zs).length) (ys:=Lib.compact zs++List.replicate (zs.length-(Lib.compact zs).length) []) h (by simp;omega) (by omega);rw[jec]at h1;exact⟨⟨_,rfl,h1⟩,below_putRow (enc:=encStr) (jdg B w) hb,fun k hk fQ=>ry (fun e=>fQ (by rw[e];rfl))⟩
theorem Eo{u:List (List Nat)}{x:List Nat}(hr:uy u)(hx:x∈u){t:Nat}(ht:t<u.length):u[t]<x↔t<plT u x:=by
 obtain⟨h1,h2⟩:=kS hx;rw[List.getElem?_eq_getElem h1]at h2;have h3:u[plT u x]=x:=Option.some.inj h2;have hp:=jeT.1 hr;constructor
 ·intro h
  rcases jdJ t (plT u x)with h4 | h4
  ·exact h4
  ·rcases jdJ (plT u x) t with h5 | h5
   ·have h6:=hp _ _ h1 ht h5
    rw[h3]at h6;exact absurd (sE h h6) (jeQ _)
   ·obtain rfl:t=plT u x:=by omega
    rw[h3]at h;exact absurd h (jeQ _)
 ·intro h
  have:=hp _ _ ht h1 h;rwa[h3]at this
theorem Ep{w:World}{v:Value}{u:List (List Nat)}(hs:Sv w v (cA u))(hl:u.length<=256)(hr:uy u)(hu:∀ s∈u,Bs s){x:List Nat}(hx:x∈u) :
  Calls Tryz.prog 234 #[v,.string (am x)] w fun e w'=>(∃ r,e=.returned (.tuple #[.int .i64 (plT u x:Nat),r]))/\Below w.heap.size w w':=by
 have yy:=hs;obtain⟨a,cap,rfl,h1,h2,h3,h4⟩:=hs;rw[dG]at *;have tq:0<u.length:=List.length_pos_of_mem hx;obtain⟨b,off,rfl,h6,h7⟩:=h4 tq;refine Calls.mono (Any2.slices_BinarySearch_string Rx b off u.length cap (fun t=>(u.map am).getD t (am x)) (am x) w (by omega) ?_) ?_
 ·intro j hj
  have:=h7 j _ (cL hj);rw[this,en];simp[List.getD_eq_getElem?_getD,hj]
 ·rintro e w' ⟨rfl,q,rfl⟩
  have hk:=(kS hx).1
  have Cw:Lib.bsGo (fun t=>Op.bytesLess ((u.map am).getD t (am x)).toList (am x).toList) u.length 0 u.length=plT u x:=by
   refine Lib.bsGo_spec _ (plT u x) ?_ ?_ _ _ _ (by omega) (by omega) (by omega)
   ·intro t ht
    have Qn:t<u.length:=(by omega);have e1:(u.map am).getD t (am x)=am u[t]:=by simp[List.getD_eq_getElem?_getD,Qn]
    simp only[e1,bC];rw[nw (hu _ (jdl Qn)) (hu _ hx)];exact jdy ((Eo hr hx Qn).2 ht)
   ·intro t ht
    rcases jdJ t u.length with Qn | Qn
    ·have e1:(u.map am).getD t (am x)=am u[t]:=by simp[List.getD_eq_getElem?_getD,Qn]
     simp only[e1,bC];rw[nw (hu _ (jdl Qn)) (hu _ hx)];refine jds (fun h=>?_);have:=(Eo hr hx Qn).1 h;omega
    ·have e1:(u.map am).getD t (am x)=am x:=by
      rw[List.getD_eq_getElem?_getD,List.getElem?_eq_none (by rw[jdk];omega)];rfl
     simp only[e1,bC];rw[nw (hu _ hx) (hu _ hx)];exact jds (jeQ _)
  rw[Cw];exact⟨⟨_,rfl⟩,ar (jdg _ _) q⟩
theorem Et{w:World}{vu v:Value}{u l:List (List Nat)}(hu:Sv w vu (cA u))(hs:Sv w v (cA l))(hl:l.length<=256)(uK:u.length<=256)(hr:uy u)(hub:∀ s∈u,Bs s)(hm:∀ x∈l,x∈u) :
  Calls Tryz.prog 211 #[vu,v] w fun e w'=>(∃ v',e=.returned v'/\bv w' w.heap.size v' (l.map fun s=>(plT u s:Int)))/\Below w.heap.size w w':=by
 obtain⟨i0,hi,cm,hz1',bn⟩:=jdA zx;have HU:=ae hu;have HS:=ae hs;have HR:=ae hr;have HM:=ae hm;have HUB:=ae hub;obtain⟨a,cap,rfl,aY,bx⟩:=hs.form1;rw[dG]at *;have hcm':cap<=9223372036854775807:=by unfold maxLen at bx;omega
 clear hs hu bx hr hm hub;obtain⟨D,hD⟩:∃ D,(l.map fun s=>(plT u s:Int))=D:=⟨_,rfl⟩;have hDl:D.length=l.length:=by rw[← hD,jdk]
 have PG:jfb (∀ k (h:k<l.length),(aK D)[k]?=some (.int .i64 (plT u l[k]:Nat))):=ae (fun k h=>by rw[← hD];simp[aK,h]);rw[hD];have kM:=ae hDl;clear hD hDl;go_enter Tryz.func211,Tryz.ntmps211
 go_wp2_with (first | (refine jek _ rfl _ _ 143 rfl w.heap.size 2 i0 (.int .i64 0) 1 Tryz.underlying143 hi cm hz1' .i64 .i64 _ _ l.length rfl rfl ?m1 ?m2 ?m3 ?m4 ?m5 ?_))
 case m1=>rfl
 case m2=>rfl
 case m3=>rw[bn];omega
 case m4=>unfold maxLen;omega
 case m5=>omega
 intro w4 gF iN;have bw:Below w.heap.size w w4:=(jdg _ _).grown iN (jdh _) (fun k hk=>by cases hk)
 have ho4':w4.ownsRow w.heap.size 2 1 (.slice (some ⟨w.heap.size,0,none⟩) l.length l.length) l.length (dx (.int .i64 0) (aK D) 0):=by
  rw[mF,ct,kM.o,← jeK];simpa using gF
 have eR:=ae ho4';have ce:=ae bw;clear gF iN bw ho4';go_wp2_with fail;go_loopw [15] (fun i wr=>∃ k:Nat,i=.int .i64 (k:Int)/\k<=l.length/\wr.ownsRow w.heap.size 2 1 (.slice (some ⟨w.heap.size,0,none⟩) l.length l.length) l.length (dx (.int .i64 0) (aK D) k)/\Below w.heap.size w wr) (fun i _=>l.length-(intOf i).toNat)
 case atStart=>exact⟨0,rfl,by omega,eR.o,ce.o⟩
 case round =>
  obtain⟨k,rfl,hk,how,az⟩:=hrel;have HB:=ae az;have HO:=ae how;have bP:=az.size;clear az how;by_cases aC:k<l.length
  ·have hkD:k<(aK D).length:=by rw[ct,kM.o];exact aC
   have hval:(aK D)[k]=.int .i64 (plT u l[k]:Nat):=by
    have:=PG.o k aC;rw[List.getElem?_eq_getElem hkD]at this;exact Option.some.inj this
   obtain⟨b,off,rfl,hb,dR⟩:=(HS.o.kept HB.o).at1 (cL aC);have hmem:=HM.o l[k] (jdl aC);have HSr:=ae (Ep (HU.o.kept HB.o) uK HR.o HUB.o hmem);have hplt:=(kS hmem).1;have jT:k<(dx (.int .i64 0) (aK D) k).length:=by rw[iv (by omega)];exact hkD
   have tu:=ae (mc (z:=.int .i64 0) hkD);rw[hval]at tu;rw[en]at dR;clear hval hmem;generalize am l[k]=S at *;generalize plT u l[k]=pz at *;generalize hy:(dx (.int .i64 0) (aK D) k)[k]=y;have hyy:=List.getElem?_eq_getElem jT;rw[hy]at hyy;clear hy;go_wp2_with fail;refine HSr.o.mono ?_;rintro e w5 ⟨⟨r,rfl⟩,br⟩;have fV:=bI HO.o br;have aS:=ae (HB.o.trans (br.mono bP));have Fz:=(fV.cellAt k (by omega)).trans hyy;have FA:=fV.frozenAt k;have hST:=fV.stored k (.int .i64 (pz:Nat));rw[tu.o]at hST;have cT:=ae hST;have Pq:=(fV.lt w.heap.size rfl).2;clear hST br fV;go_wp2_with fail;go_roundw
   case rel=>exact⟨k+1,by go_num,by omega,cT.o.1,cN aS.o (jdh _) _⟩
   case measure=>simp[intOf];omega
  ·obtain rfl:k=l.length:=by omega
   have e:dx (.int .i64 0) (aK D) l.length=aK D:=by
    have:=oL (.int .i64 0) (aK D);rwa[ct,kM.o]at this
   rw[e]at HO
   have HO':jfb (bv wr w.heap.size (.slice (some ⟨w.heap.size,0,none⟩) l.length l.length) D):=ae (by
    unfold bv;rw[kM.o];exact HO.o)
   clear HO e;go_wp2_with fail;go_ret
   exact⟨⟨_,rfl,HO'.o⟩,HB.o⟩
theorem eG{W W':World}{B p:Nat}{x:Value}(h:W.cell? ⟨p,0,none⟩=some x)(hb:Below B W W')(hp:p<B):W'.cell? ⟨p,0,none⟩=some x:=(hb.cell (p:=⟨p,0,none⟩) hp).trans h
theorem nO{l:List (List Nat)}(ht:Ts l)(hl:l.length<=256):(fA l).length<=21525:=(sG ht hl).1
theorem yl{w:World}{g p:Nat}{v vl:Value}{l:List (List Nat)}(hg:Gs w g v [])(hp:p<g)(hc:w.cell? ⟨p,0,none⟩=some vl)(hs:Sv w vl (cA l))(fW:∀ k,vl.ownBlock=some k->k<g)(hl:l.length<=256)(ht:Ts l) :
  Calls Tryz.prog 205 #[.func (.func 168) #[] #[.pointer (some ⟨g,0,none⟩)],.pointer (some ⟨p,0,none⟩)] w (jt w g (plain l)):=by
 have HG:=ae hg;have Ck:=hg.lt;have HC:=ae hc;have HS:=ae hs;have rT:=ae fW;have HT:=ae ht;have Cu:=ae (eW (hg.kept (ak w (.cells #[.int .u8 0] 5))) (cF w 0).sv (by simp));have cY:(w.alloc (.cells #[.int .u8 0] 5)).heap.size=w.heap.size+1:=jdi _ _;clear hg hc hs fW ht;go_enter Tryz.func205,Tryz.ntmps205
 go_wp2_with fail;refine Cu.o.mono ?_;rintro e w1 ⟨rfl,⟨v1,eS⟩,aH,_⟩;have aR:=ae (((ak w (.cells #[.int .u8 0] 5)).mono (jdG Ck)).trans aH);have ly:=eG HC.o aR.o hp;have Fv:=ae (tW eS (by simp) (HS.o.keptB rT.o aR.o) rT.o hl HT.o);obtain⟨a,cap,rfl,_,_⟩:=HS.o.form1;clear eS aH;go_wp2_with fail;refine Fv.o.mono ?_;rintro e w2 ⟨rfl,⟨v2,gM⟩,aE⟩;have Kp:=ae gM;have aO:=ae (aR.o.trans aE);clear gM aE;go_wp2_with fail;go_end0
 exact⟨rfl,⟨_,Kp.o⟩,aO.o⟩
theorem Bp{w:World}{vl:Value}{l:List (List Nat)}(hs:Sv w vl (cA l))(fW:∀ k,vl.ownBlock=some k->k<w.heap.size)(hl:l.length<=256)(ht:Ts l) :
  Calls Tryz.prog 172 #[vl] w (dw w (plain l)):=by
 obtain⟨a,cap,rfl,_,_⟩:=hs.form1
 have HGA:=ae (SZ (w:=w.alloc (.cells #[.slice a (cA l).length cap] 144)) (p:=.pointer (some ⟨w.heap.size,0,none⟩)) (bs:=plain l) (fun W hg hb=>by
  have hz:=jdi w (.cells #[.slice a (cA l).length cap] 144);refine yl hg (by omega) ?_ ((hs.kept (ak w _)).kept hb) (fun k hk=>by have:=fW k hk;omega) hl ht;rw[hb.cell (p:=⟨w.heap.size,0,none⟩) (by show w.heap.size<_;omega)];exact aL _ _ _))
 have HB:=ae (ak w (.cells #[.slice a (cA l).length cap] 144));have hz:=jdi w (.cells #[.slice a (cA l).length cap] 144);clear hs fW ht;generalize plain l=bs at *;generalize (cA l).length=n at *;go_enter Tryz.func172,Tryz.ntmps172
 go_wp2_with fail;refine HGA.o.mono ?_;rintro e w1 ⟨⟨v1,rfl,eI⟩,aH⟩;have fC:=ae (eI.low (B:=w.heap.size) (by omega));have aR:=ae (HB.o.trans (aH.mono (by omega)));clear eI aH;go_wp2_with fail;go_ret
 exact⟨⟨_,rfl,fC.o⟩,aR.o⟩
end Go.Proofs.YtpljdjmpamjkhaaGreatDoor
