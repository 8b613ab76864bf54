import Derived.Test.YtpljdjmpamjkhaaGreatDoorXav
set_option linter.unusedVariables false
set_option linter.unusedSimpArgs false
set_option maxRecDepth 100000
set_option maxHeartbeats 4000000
namespace Go.Proofs.YtpljdjmpamjkhaaGreatDoor
open Go.RowKit Go.Lib
theorem NI{w w':World}{B e size n g cap:Nat}{xs:List Value}(h:w.ownsRow B e size (.slice (some ⟨g,0,none⟩) n cap) n xs)(hb:w'.heap[g]?=w.heap[g]?):w'.ownsRow B e size (.slice (some ⟨g,0,none⟩) n cap) n xs:=by
 obtain⟨h0,h | ⟨g',cap',cur,h1,h2,h3,h4⟩⟩:=h
 ·exact⟨h0,Or.inl h⟩
 ·cases h1
  exact⟨h0,Or.inr ⟨g,cap,cur,rfl,h2,hb.trans h3,h4⟩⟩
theorem jH{l:List (Nat×Int×List Nat)}{j:Nat}(h:j<l.length):bN (l.take (j+1))=bN (l.take j)++[if l[j].1=0 then 0 else 1]:=by
 unfold bN;rw[jdM h,jdQ];rfl
theorem Ei{l:List (Nat×Int×List Nat)}(h:¬ 0∈bN l):dK l=[0]:=jdt h
theorem zJ{l:List (Nat×Int×List Nat)}(h:0∈bN l):dK l=[1]++bi (bN l) 1:=jdu h
theorem jt{l:List Nat}(h:∀ x∈l,x<2)(hl:l.length<=256):(bi l 1).length<=32:=by
 rw[eI h hl];unfold by8;omega
theorem Bi{w:World}{g:Nat}{v vl:Value}{bs:List Nat}{l:List (Nat×Int×List Nat)}(hg:Gs w g v bs)(PJ:bs.length<=100000)(hs:Sv w vl (aI l))(hl:l.length<=256) :
  Calls Tryz.prog 125 #[.func (.func 168) #[] #[.pointer (some ⟨g,0,none⟩)],vl] w (js w g (bs++dK l)):=by
 obtain⟨i0,hi,ct,hz1',bv⟩:=jdP pM;have HG:=ae hg;have Cd:=hg.lt;have HS:=ae hs;obtain⟨a,cap,rfl,aW,bw⟩:=hs.form1;rw[aG]at *;have hcm':cap<=9223372036854775807:=by unfold maxLen at bw;omega
 have H2:=ae (dY l);have HSH:=ae (jt (dY l) (by rw[bn];exact hl));have HN:=ae (Ei (l:=l));have HY:=ae (zJ (l:=l));obtain⟨D,hD⟩:∃ D,bN l=D:=⟨_,rfl⟩;have hDl:D.length=l.length:=by rw[← hD,bn]
 have PY:jfp (∀ k (h:k<l.length),D[k]?=some (if l[k].1=0 then 0 else 1)):=ae (fun k h=>by rw[← hD];simp[bN,h]);rw[hD]at H2 HSH HN HY;have HD:=ae hD;have kQ:=ae hDl;clear hs bw hD hDl hg;go_enter Tryz.func125,Tryz.ntmps125
 go_wp2_with (first | (refine jeA _ rfl _ _ 142 rfl w.heap.size 92 i0 (.int .u64 0) 1 Tryz.underlying142 hi ct hz1' .i64 .i64 _ _ l.length rfl rfl ?m1 ?m2 ?m3 ?m4 ?m5 ?_))
 case m1=>rfl
 case m2=>rfl
 case m3=>rw[bv];omega
 case m4=>unfold maxLen;omega
 case m5=>omega
 intro w4 gN iN;have bK:Below w.heap.size w w4:=(jdv _ _).grown iN (jdw _) (fun k hk=>by cases hk)
 have ho4':w4.ownsRow w.heap.size 92 1 (.slice (some ⟨w.heap.size,0,none⟩) l.length l.length) l.length (aF .u64 (fill D 0)):=by
  rw[oI,kQ.o,← kf];simpa using gN
 have eR:=ae ho4';have cx:=ae bK;clear gN iN bK ho4';go_wp2_with fail;go_loopw [5,13] (fun o i wr=>∃ k:Nat,o=.bool (decide (0∈bN (l.take k)))/\i=.int .i64 (k:Int)/\k<=l.length/\wr.ownsRow w.heap.size 92 1 (.slice (some ⟨w.heap.size,0,none⟩) l.length l.length) l.length (aF .u64 (fill D k))/\Below w.heap.size w wr) (fun _ i _=>l.length-(intOf i).toNat)
 case atStart=>exact⟨0,rfl,rfl,by omega,eR.o,cx.o⟩
 case round =>
  obtain⟨k,rfl,rfl,hk,how,az⟩:=hrel;have HB:=ae az;have HO:=ae how;have bF:=az.size;clear az how;by_cases aB:k<l.length
  ·have hkD:k<D.length:=by rw[kQ.o];exact aB
   have hval:D[k]=if l[k].1=0 then 0 else 1:=by
    have:=PY.o k aB;rw[List.getElem?_eq_getElem hkD]at this;exact Option.some.inj this
   obtain⟨b,off,rfl,hb,ek⟩:=(HS.o.kept HB.o).at1 (cN aB);have kj:k<(fill D k).length:=by rw[kX (by omega)];exact hkD
   have tq:=ae (qO hkD);have rQ:=ae (jH aB);have HVF:=ae (jY l[k]);have HVN:=ae (ov l[k]);have fZ:=HO.o;have FB:=(fZ.cellAt k (by omega)).trans (bU kj);have FC:=fZ.frozenAt k;have hST:=fZ.stored k (.int .u64 (D[k]:Int));rw[kn,tq.o]at hST;have cU:=ae hST;have PC:=(fZ.lt w.heap.size rfl).2;clear hST fZ;generalize l[k]=c at *;generalize (fill D k)[k]=y at *;generalize D[k]=z at *;by_cases h0:c.1=0
   ·rw[HVN.o h0]at ek
    rw[jdu h0]at hval rQ;subst hval;have HFl:jfp (decide (0∈bN (l.take (k+1)))=true):=ae (jdO (by rw[rQ.o];simp));clear HVF HVN h0;have PM:=ae (wV false);generalize decide (0∈bN (l.take k))=fl at *;cases fl
    ·go_wp2_with fail
     refine(PM.o _).mono ?_;rintro e w5 ⟨rfl,rfl⟩;go_wp2_with fail;go_roundw
     case rel=>exact⟨k+1,by rw[HFl.o],by go_num,by omega,cU.o.1,cO HB.o (jdw _) _⟩
     case measure=>simp[intOf];omega
    ·go_wp2_with fail
     refine(PM.o _).mono ?_;rintro e w5 ⟨rfl,rfl⟩;go_wp2_with fail;go_roundw
     case rel=>exact⟨k+1,by rw[HFl.o],by go_num,by omega,cU.o.1,cO HB.o (jdw _) _⟩
     case measure=>simp[intOf];omega
   ·obtain⟨tt,uu,hvv⟩:=HVF.o h0
    rw[hvv]at ek;rw[jdt h0]at hval rQ;subst hval;have HFl:jfp (decide (0∈bN (l.take (k+1)))=decide (0∈bN (l.take k))):=ae (by rw[rQ.o];simp);clear HVF HVN h0 hvv;have PM:=ae (wV true);generalize decide (0∈bN (l.take k))=fl at *;cases fl
    ·go_wp2_with fail
     refine(PM.o _).mono ?_;rintro e w5 ⟨rfl,rfl⟩;go_wp2_with fail;go_roundw
     case rel=>exact⟨k+1,by rw[HFl.o],by go_num,by omega,cU.o.1,cO HB.o (jdw _) _⟩
     case measure=>simp[intOf];omega
    ·go_wp2_with fail
     refine(PM.o _).mono ?_;rintro e w5 ⟨rfl,rfl⟩;go_wp2_with fail;go_roundw
     case rel=>exact⟨k+1,by rw[HFl.o],by go_num,by omega,cU.o.1,cO HB.o (jdw _) _⟩
     case measure=>simp[intOf];omega
  ·obtain rfl:k=l.length:=by omega
   have e:fill D l.length=D:=by
    have:=qN D;rwa[kQ.o]at this
   rw[e]at HO;rw[jdE,HD.o];have HGr:=ae (HG.o.kept HB.o);clear e;by_cases h0:0∈D
   ·rw[jdO h0]
    have HHB:=ae (HY.o h0);have Co:=ae (eW (HGr.o.kept (am wr (.cells #[.int .u8 1] 5))) (cG wr 1).sv (by simp;omega));have cP:(wr.alloc (.cells #[.int .u8 1] 5)).heap.size=wr.heap.size+1:=jdx _ _;clear HN HY h0;go_wp2_with fail;refine Co.o.mono ?_;rintro e w6 ⟨rfl,⟨v6,LX⟩,ey,UZ⟩;have PC:=(HO.o.lt w.heap.size rfl).2
    have Cq:dH w6 w.heap.size (.slice (some ⟨w.heap.size,0,none⟩) l.length l.length) D:=by
     unfold dH;rw[kQ.o];refine NI (bL HO.o (am wr (.cells #[.int .u8 1] 5))) (UZ w.heap.size (by omega) (by omega) (fun e=>?_));have:=(HG.o.2.lt w.heap.size e).2;omega
    have FD:=ey.size;have kK:=ae LX;have ja:=ae ((HB.o.mono (jdU Cd)).trans (((am wr (.cells #[.int .u8 1] 5)).mono (by omega)).trans ey));have HP6:=ae (zF Cq.sv H2.o);clear LX ey UZ Cq;go_wp2_with fail;refine HP6.o.mono ?_;rintro e w7 ⟨⟨v7,rfl,Yd⟩,ji⟩;have HP7:=ae (eW (kK.o.kept ji) Yd.sv (by have:=HSH.o;simp;omega));have io:=ae (ja.o.trans (ji.mono (by omega)));clear Yd ji;go_wp2_with fail;refine HP7.o.mono ?_;rintro e w8 ⟨rfl,⟨v8,hg8⟩,lD,_⟩;rw[jdL]at hg8;have HG8:=ae hg8;have xD:=ae (io.o.trans lD);clear hg8 lD;go_wp2_with fail;go_end0
    rw[HHB.o];exact⟨rfl,⟨_,HG8.o⟩,xD.o⟩
   ·rw[jdK h0]
    have HHB:=ae (HN.o h0);have Co:=ae (eW (HGr.o.kept (am wr (.cells #[.int .u8 0] 5))) (cG wr 0).sv (by simp;omega));have cP:(wr.alloc (.cells #[.int .u8 0] 5)).heap.size=wr.heap.size+1:=jdx _ _;clear HN HY h0;go_wp2_with fail;refine Co.o.mono ?_;rintro e w6 ⟨rfl,⟨v6,LX⟩,ey,UZ⟩;have kK:=ae LX;have ja:=ae ((HB.o.mono (jdU Cd)).trans (((am wr (.cells #[.int .u8 0] 5)).mono (by omega)).trans ey));clear LX ey UZ;go_wp2_with fail;go_end0
    rw[HHB.o];exact⟨rfl,⟨_,kK.o⟩,ja.o⟩
def dz(z:Value)(l:List Value)(i:Nat):List Value:=l.take i++List.replicate (l.length-i) z
theorem mL(z:Value)(l:List Value):dz z l 0=List.replicate l.length z:=by simp[dz]
theorem oO(z:Value)(l:List Value):dz z l l.length=l:=by simp[dz]
theorem iA{z:Value}{l:List Value}{i:Nat}(h:i<=l.length):(dz z l i).length=l.length:=by simp[dz];omega
theorem mh{z:Value}{l:List Value}{i:Nat}(h:i<l.length):(dz z l i).set i l[i]=dz z l (i+1):=by
 unfold dz
 rw[List.set_append_right _ _ (by simp;omega),jdC,jew (by omega),jeW,show l.length-i=(l.length-(i+1))+1 by omega,
  List.replicate_succ,jdH,jdM h,jdL]
 rfl
theorem Sv.keptB{W W':World}{B:Nat}{v:Value}{xs:List Value}(h:Sv W v xs)(hv:∀ k,v.ownBlock=some k->k<B)(hb:Below B W W'):Sv W' v xs:=by
 obtain⟨a,cap,rfl,h1,h2,h3,h4⟩:=h;refine⟨a,cap,rfl,h1,h2,h3,fun h0=>?_⟩;obtain⟨b,off,rfl,h5,h6⟩:=h4 h0;have hb':b<B:=hv b rfl;exact⟨b,off,rfl,jdS h5 hb.size,fun j x hj=>(hb.cell (p:=⟨b,off+j,none⟩) hb').trans (h6 j x hj)⟩
theorem sX(W:World)(o:Obj):Below W.heap.size W (W.drew.alloc o):=by
 have h1:Below W.heap.size W W.drew:=⟨rfl,rfl,rfl,jdw _,fun _ _=>rfl⟩;exact h1.alloc (jdw _) _
theorem Jj{s:List Nat}(hb:Bs s)(hl:s.length<=140737488355328)(W:World):∃ g cap W',(convert 9 30 (.string (ak s))).run Tryz.prog W=.ok (.slice (some ⟨g,0,none⟩) s.length cap) W'/\Sv W' (.slice (some ⟨g,0,none⟩) s.length cap) (aF .u8 s)/\Below W.heap.size W W'/\W'.heap.size=W.heap.size+1:=by
 have hr:=run_bytes_of_string (P:=Tryz.prog) W 9 30 5 (ak s) Tryz.underlying9 Tryz.underlying30 Tryz.underlying5;rw[bg]at hr;refine⟨_,_,_,hr,?_,sX _ _,?_⟩
 ·have gj:=grownCap_ge W s.length 0 5
  have pB:=grownCap_le_maxLen W s.length 0 5 (by unfold maxLen;omega);refine⟨_,_,by rw[ar],by rw[ar];exact gj,pB,fun e=>by(cases e),fun h0=>⟨_,_,rfl,by rw[jdx];show W.heap.size<W.heap.size+1;omega,fun j x hj=>?_⟩⟩
  have hj':j<s.length:=by
   have:=(List.getElem?_eq_some_iff.1 hj).1;rwa[ar]at this
  rw[bU hj']at hj;have hh:(W.drew.alloc (.cells (bytesRow (ak s) (grownCap W s.length 0 5)) 5 ((bytesRow (ak s) (grownCap W s.length 0 5)).size,(bytesRow (ak s) (grownCap W s.length 0 5)).size+1))).heap[W.heap.size]?=some (.cells (bytesRow (ak s) (grownCap W s.length 0 5)) 5 ((bytesRow (ak s) (grownCap W s.length 0 5)).size,(bytesRow (ak s) (grownCap W s.length 0 5)).size+1)):=jdW W.drew _;rw[jdZ,ay hh,← hj];unfold bytesRow ak;have hx:s[j]<256:=hb _ (jdA hj');rw[Array.getElem?_append_left (by simpa using hj')];simp[hj',jen hx]
 ·rw[jdx]
  rfl
theorem gI{l:List Int}(hi:Is l)(hl:l.length<=256):(cQ l).length<=5131:=(ke hi hl).1
theorem Ej{w:World}{v:Value}{l:List Int}(hs:Sv w v (aL l))(hl:l.length<=256)(hi:Is l):Calls Tryz.prog 231 #[v] w (dw w (cnt l)):=by
 have HB:=ae (sS hs hl hi);have bR:=gI hi hl;have kP:jfp (cnt l=uv (cQ l).length++cQ l):=rfl;clear hs hi;generalize cnt l=cn at *;generalize cQ l=bs at *;have no:=bM (n:=bs.length) (by omega);have HP:=ae (dM bs.length (by omega));go_enter Tryz.func231,Tryz.ntmps231
 go_wp2_with fail;refine HB.o.mono ?_;rintro e w1 ⟨⟨v1,rfl,eH⟩,aH⟩;have eY:=ae eH;have aQ:=ae aH;have cP:=aH.size;obtain⟨a1,c1,rfl⟩:=eH.len;clear eH aH;go_wp2_with fail;refine(HP.o _).mono ?_;rintro e w2 ⟨⟨v2,rfl,eZ⟩,aE⟩;have du:=ae (eZ.low cP);have aO:=ae aE;have bv:=aE.size;clear eZ aE;go_wp2_with (first | (at_builtin;refine ax rfl _ _ rfl w.heap.size _ _ (uv bs.length) bs rfl du.o rfl (eY.o.kept aO.o).sv ?c1 ?c2 ?_))
 case c1=>omega
 case c2=>omega
 intro v4 w4 o4 b4;have eR:=ae o4;have cx:=ae ((aQ.o.trans (aO.o.mono cP)).trans b4);clear o4 b4;go_wp2_with fail;go_ret
 rw[kP.o];exact⟨⟨_,rfl,eR.o⟩,cx.o⟩
theorem li{l:List (List Nat)}{k:Nat}(h:k<l.length):(l.take (k+1)).flatten=(l.take k).flatten++l[k]:=by
 rw[jdM h,je8];simp
theorem iV{l:List (List Nat)}(ht:Ts l)(hl:l.length<=256)(k:Nat):(l.take k).flatten.length<=16384:=by
 have h:=(oD (l:=l.take k) fun s hs=>ht s (jek hs)).1;rw[jdC]at h;omega
theorem tV{w:World}{g:Nat}{v vl:Value}{bs:List Nat}{l:List (List Nat)}(hg:Gs w g v bs)(PJ:bs.length<=100000)(hs:Sv w vl (cC l))(gd:∀ k,vl.ownBlock=some k->k<g)(hl:l.length<=256)(ht:Ts l) :
  Calls Tryz.prog 206 #[.func (.func 168) #[] #[.pointer (some ⟨g,0,none⟩)],vl] w (js w g (bs++fC l)):=by
 obtain⟨i0,hi,ct,hz1',bv⟩:=jdP zw;have HG:=ae hg;have Cd:=hg.lt;have HS:=ae hs;have HT:=ae ht;have rT:=ae gd;obtain⟨a,cap,rfl,aW,bw⟩:=hs.form1;rw[dL]at *;have hcm':cap<=9223372036854775807:=by unfold maxLen at bw;omega
 have Zx:jfp (fC l=cnt (ec l)++l.flatten):=rfl;have LQ:=ae (fun k=>iV ht hl k);obtain⟨D,hD⟩:∃ D,ec l=D:=⟨_,rfl⟩;have hDl:D.length=l.length:=by rw[← hD,bJ]
 have HDI:jfp (Is D):=ae (hD ▸ gZ ht);have PY:jfp (∀ k (h:k<l.length),(aL D)[k]?=some (.int .i64 ((ak l[k]).size:Int))):=ae (fun k h=>by rw[← hD];simp[ec,aL,h,bg]);rw[hD]at Zx;have kQ:=ae hDl
 have eQ:(cnt D).length<=5141:=by
  have h1:=gI HDI.o (by omega);have h2:=bM (n:=(cQ D).length) (by omega);unfold cnt;rw[jdy];omega
 clear hs bw hD hDl hg ht gd;go_enter Tryz.func206,Tryz.ntmps206
 go_wp2_with (first | (refine jeA _ rfl _ _ 143 rfl w.heap.size 2 i0 (.int .i64 0) 1 Tryz.underlying143 hi ct hz1' .i64 .i64 _ _ l.length rfl rfl ?m1 ?m2 ?m3 ?m4 ?m5 ?_))
 case m1=>rfl
 case m2=>rfl
 case m3=>rw[bv];omega
 case m4=>unfold maxLen;omega
 case m5=>omega
 intro w4 gN iN;have bK:Below w.heap.size w w4:=(jdv _ _).grown iN (jdw _) (fun k hk=>by cases hk)
 have ho4':w4.ownsRow w.heap.size 2 1 (.slice (some ⟨w.heap.size,0,none⟩) l.length l.length) l.length (dz (.int .i64 0) (aL D) 0):=by
  rw[mL,cy,kQ.o,← jeZ];simpa using gN
 have eR:=ae ho4';have cx:=ae bK;clear gN iN bK ho4';go_wp2_with fail;go_loopw [14] (fun i wr=>∃ k:Nat,i=.int .i64 (k:Int)/\k<=l.length/\wr.ownsRow w.heap.size 2 1 (.slice (some ⟨w.heap.size,0,none⟩) l.length l.length) l.length (dz (.int .i64 0) (aL D) k)/\Below w.heap.size w wr) (fun i _=>l.length-(intOf i).toNat)
 case atStart=>exact⟨0,rfl,by omega,eR.o,cx.o⟩
 case round =>
  obtain⟨k,rfl,hk,how,az⟩:=hrel;have HB:=ae az;have HO:=ae how;have bF:=az.size;clear az how;by_cases aB:k<l.length
  ·have hkD:k<(aL D).length:=by rw[cy,kQ.o];exact aB
   have hval:(aL D)[k]=.int .i64 ((ak l[k]).size:Int):=by
    have:=PY.o k aB;rw[List.getElem?_eq_getElem hkD]at this;exact Option.some.inj this
   obtain⟨b,off,rfl,hb,ek⟩:=(HS.o.kept HB.o).at1 (cM aB);have kj:k<(dz (.int .i64 0) (aL D) k).length:=by rw[iA (by omega)];exact hkD
   have tq:=ae (mh (z:=.int .i64 0) hkD);have fZ:=HO.o;have FB:=(fZ.cellAt k (by omega)).trans (List.getElem?_eq_getElem kj);have FC:=fZ.frozenAt k;have hST:=fZ.stored k (.int .i64 ((ak l[k]).size:Int));rw[← hval,tq.o]at hST;rw[hval]at hST;have cU:=ae hST;have PC:=(fZ.lt w.heap.size rfl).2;have jw:(ak l[k]).size<=64:=by rw[bg];exact(HT.o _ (jdA aB)).1
   rw[dJ]at ek;clear hST fZ hval;generalize (dz (.int .i64 0) (aL D) k)[k]=y at *;generalize ak l[k]=S at *;go_wp2_with fail;go_roundw
   case rel=>exact⟨k+1,by go_num,by omega,cU.o.1,cO HB.o (jdw _) _⟩
   case measure=>simp[intOf];omega
  ·obtain rfl:k=l.length:=by omega
   have e:dz (.int .i64 0) (aL D) l.length=aL D:=by
    have:=oO (.int .i64 0) (aL D);rwa[cy,kQ.o]at this
   rw[e]at HO
   have ho':bC wr w.heap.size (.slice (some ⟨w.heap.size,0,none⟩) l.length l.length) D:=by
    unfold bC;rw[kQ.o];exact HO.o
   have HCT:=ae (Ej ho'.sv (by rw[kQ.o];exact hl) HDI.o);have HGr:=ae (HG.o.kept HB.o);clear e ho' HO;go_wp2_with fail;refine HCT.o.mono ?_;rintro e w6 ⟨⟨v6,rfl,Cq⟩,ey⟩;have HP6:=ae (eW (HGr.o.kept ey) Cq.sv (by omega));have ja:=ae (HB.o.trans (ey.mono bF));have FD:=ey.size;clear Cq ey;go_wp2_with fail;refine HP6.o.mono ?_;rintro e w7 ⟨rfl,⟨v7,hg7⟩,ji,_⟩;have HG7:=ae hg7;have io:=ae ((ja.o.mono (jdU Cd)).trans ji);clear hg7 ji;go_wp2_with fail;go_loopw [31] (fun i wr=>∃ k:Nat,i=.int .i64 (k:Int)/\k<=l.length/\(∃ v',Gs wr g v' (bs++cnt D++(l.take k).flatten))/\Below g w wr) (fun i _=>l.length-(intOf i).toNat)
   case atStart=>exact⟨0,rfl,by omega,⟨v7,by simpa using HG7.o⟩,io.o⟩
   case round =>
    obtain⟨k,rfl,hk,⟨vq,hgq⟩,yC⟩:=hrel;have HGQ:=ae hgq;have pb:=ae yC;have yA:=yC.size;clear hgq yC;by_cases aB:k<l.length
    ·obtain⟨b,off,rfl,hb,ek⟩:=(HS.o.keptB rT.o pb.o).at1 (cM aB)
     obtain⟨Kg,XZ⟩:=HT.o _ (jdA aB);obtain⟨gc,cc,wc,LM,Cu,hbc,hzc⟩:=Jj XZ (by omega) wr;rw[dJ]at ek;have Gb:=ae (li aB);have kj:=LQ.o k;have HPQ:=ae (eW (HGQ.o.kept hbc) Cu (by simp only[jdy];omega));have HBC:=ae (pb.o.trans (hbc.mono (jdF (jdU HGQ.o.lt) (jdw _))));have fT:g<wr.heap.size:=HGQ.o.lt;clear Cu hbc XZ Kg;generalize ak l[k]=S at *;generalize l[k]=x at *;go_wp2_with fail;refine HPQ.o.mono ?_;rintro e w8 ⟨rfl,⟨v8,hg8⟩,lD,_⟩;rw[jdL,← Gb.o]at hg8;have HG8:=ae hg8;have xD:=ae (HBC.o.trans lD);clear hg8 lD;go_wp2_with fail;go_roundw
     case rel=>exact⟨k+1,by go_num,by omega,⟨_,HG8.o⟩,xD.o⟩
     case measure=>simp[intOf];omega
    ·obtain rfl:k=l.length:=by omega
     rw[jdE,jdL,← Zx.o]at HGQ;go_wp2_with fail;go_end0
     exact⟨rfl,⟨_,HGQ.o⟩,pb.o⟩
open Go.Shelf
theorem Tt:∀{a b:List UInt8},a<b↔a.map UInt8.toNat<b.map UInt8.toNat
 | [],[]=>by simp
 | [],y::t=>by simp
 | x::s,[]=>by simp
 | x::s,y::t=>by
  have ih:=Tt (a:=s) (b:=t);have h3:(x::s<y::t)↔(x<y∨x=y/\s<t):=List.cons_lt_cons_iff;have h4:(x.toNat::s.map UInt8.toNat<y.toNat::t.map UInt8.toNat)↔(x.toNat<y.toNat∨x.toNat=y.toNat/\s.map UInt8.toNat<t.map UInt8.toNat):=List.cons_lt_cons_iff;have h5:x=y↔x.toNat=y.toNat:=⟨fun e=>by rw[e],fun e=>UInt8.toNat_inj.1 e⟩;rw[jd5,jd5,h3,h4,ih,UInt8.lt_iff_toNat_lt,h5]
theorem Tu{x y:List UInt8}(h1:x≠y)(h2:¬ y<x):x<y:=by
 rcases List.le_iff_lt_or_eq.1 (show x<=y from h2)with h | h
 ·exact h
 ·exact absurd h h1
def qe(l:List (List UInt8)):List (List UInt8):=l.mergeSort fun x y=>decide (x<=y)
theorem lj(l:List (List UInt8)):(qe l).length=l.length:=List.length_mergeSort l
theorem mM{l:List (List UInt8)}:∀ m,m<=l.length->∀ z,z∈compactUpTo l.toArray m↔z∈l.take m
 | 0,_,z=>by simp[compactUpTo]
 | m+1,hm,z=>by
  have ih:=mM (l:=l) m (by omega);have hg:l.toArray[m]! = l[m]:=by simp[show m<l.length by omega]
  rw[compactUpTo_succ,jd2,ih z,jdM (by omega),jd2,hg];by_cases hk:keeps l.toArray m=true
  ·rw[jdu hk]
  ·rw[jdt hk]
   constructor
   ·rintro(h | h)
    ·exact Or.inl h
    ·simp at h
   ·rintro(h | h)
    ·exact Or.inl h
    ·left
     have h':z=l[m]:=by simpa using h
     unfold keeps at hk;simp only[jei]at hk;have eS:l.toArray[m-1]! = l[m-1]:=by simp[show m-1<l.length by omega]
     rw[hg,eS]at hk;have hm0:m≠0:=fun e=>hk (Or.inl e)
     have he:l[m]=l[m-1]:=Decidable.byContradiction fun e=>hk (Or.inr e)
     rw[h',he];exact jfo.2 ⟨m-1,by omega,rfl⟩
theorem nc{l:List (List UInt8)}(hs:l.Pairwise (·<=·)):∀ m,m<=l.length->(compactUpTo l.toArray m).Pairwise (· < ·)
 | 0,_=>by simp[compactUpTo]
 | m+1,hm=>by
  have ih:=nc hs m (by omega);have hg:l.toArray[m]! = l[m]:=by simp[show m<l.length by omega]
  rw[compactUpTo_succ,hg];by_cases hk:keeps l.toArray m=true
  ·rw[jdu hk]
   refine List.pairwise_append.2 ⟨ih,by simp,fun a ha b hb=>?_⟩;have hb':b=l[m]:=by simpa using hb
   subst hb';have h1:=(mM m (by omega) a).1 ha;obtain⟨j,hj,rfl⟩:=jfo.1 h1;have hjm:j<m:=(by omega);unfold keeps at hk;simp only[jei]at hk;have eS:l.toArray[m-1]! = l[m-1]:=by simp[show m-1<l.length by omega]
   rw[hg,eS]at hk
   have h2:l[m]≠l[m-1]:=by
    rcases hk with h | h
    ·omega
    ·exact h
   have h3:l[m-1]<=l[m]:=je5.1 hs (m-1) m (by omega) (by omega) (by omega)
   have h4:l[j]<=l[m-1]:=by
    rcases jdY j (m-1)with h | h
    ·exact je5.1 hs j (m-1) (by omega) (by omega) h
    ·have:j=m-1:=by omega
     subst this;exact List.le_refl _
   have h5:l[m-1]<l[m]:=Tu (fun e=>h2 e.symm) h3;exact List.lt_of_le_of_lt h4 h5
  ·rw[jdt hk,jdT]
   exact ih
theorem Bj(l:List (List UInt8)):(Lib.compact (qe l)).map (fun s=>s.map UInt8.toNat)=tuq (l.map fun s=>s.map UInt8.toNat):=by
 have hs:(qe l).Pairwise (·<=·):=by
  have:=List.pairwise_mergeSort (le:=fun x y:List UInt8=>decide (x<=y)) (fun a b c h1 h2=>by simp only[jei]at *;exact List.le_trans h1 h2) (fun a b=>by simp only[Bool.or_eq_true,jei];exact List.le_total a b) l;exact this.imp (fun h=>by simpa using h)
 refine tE ?_ (vT _) (fun z=>?_)
 ·exact List.pairwise_map.2 ((nc hs _ (jdw _)).imp fun h=>Tt.1 h)
 ·rw[jf]
  have hm:=fun y=>mM (l:=qe l) (qe l).length (jdw _) y
  rw[jdE]at hm;unfold Lib.compact;simp only[jdR,hm];constructor
  ·rintro⟨y,hy,rfl⟩
   exact⟨y,List.mem_mergeSort.1 hy,rfl⟩
  ·rintro⟨y,hy,rfl⟩
   exact⟨y,List.mem_mergeSort.2 hy,rfl⟩
def upT(l:List (List Nat)):List (List UInt8):=l.map fun s=>s.map Nat.toUInt8
def dnT(l:List (List UInt8)):List (List Nat):=l.map fun s=>s.map UInt8.toNat
theorem Ek(l:List (List Nat)):cC l=(upT l).map encStr:=by
 unfold cC upT;rw[jd8];rfl
theorem up_dn(u:List (List UInt8)):upT (dnT u)=u:=by
 unfold upT dnT;rw[jd8];conv=>rhs;rw[← jev u]
 apply jeq
 intro s _;simp only[Function.comp,jd8,id];conv=>rhs;rw[← jev s]
 apply jeq
 intro x _;simp
theorem dn_up{l:List (List Nat)}(h:∀ s∈l,Bs s):dnT (upT l)=l:=by
 unfold upT dnT;rw[jd8];conv=>rhs;rw[← jev l]
 apply jeq
 intro s hs;exact ft (h s hs)
theorem sY(l:List (List Nat)):(upT l).length=l.length:=jdz _
theorem Jk{l:List (List Nat)}(h:∀ s∈l,Bs s):Lib.compact (qe (upT l))=upT (tuq l):=by
 have h1:=Bj (upT l);have h2:(upT l).map (fun s=>s.map UInt8.toNat)=l:=dn_up h;rw[h2]at h1;rw[← h1];exact(up_dn _).symm
theorem Sv.texts{W:World}{b off n cap:Nat}{l:List (List Nat)}(h:Sv W (.slice (some ⟨b,off,none⟩) n cap) (cC l)):∀ j,j<(l.map ak).length->W.cell? ⟨b,off+j,none⟩=some (.string ((l.map ak).getD j ByteArray.empty)):=by
 intro j hj;rw[jdz]at hj;obtain⟨b',off',h1,_,h2⟩:=h.at1 (cM hj);cases h1
 rw[h2,dJ];simp[List.getD_eq_getElem?_getD,hj]
theorem Jl{w:World}{v:Value}{l:List (List Nat)}(hs:Sv w v (cC l))(hl:l.length<=256) :
  Calls Tryz.prog 207 #[v] w fun e w'=>(∃ v',e=.returned v'/\eF w' w.heap.size v' l)/\Below w.heap.size w w':=by
 have yw:=hs;obtain⟨a,cap,rfl,h1,h2,h3,h4⟩:=hs;rw[dL]at *;cases a with
 | none =>
  have hc:=h3 rfl;have rR:l=[]:=jdV (by omega);subst rR;refine Calls.mono (AnyG.slices_Clone_string_nil lz _ _ w) ?_;rintro e w' ⟨rfl,rfl⟩;exact⟨⟨_,rfl,eF.nil _ _⟩,jdv _ _⟩
 | some a =>
  rcases jel l.length with h0 | h0
  ·have rR:l=[]:=jdV h0
   subst rR;refine Calls.mono (AnyG.slices_Clone_string_zero lz a cap w) ?_;rintro e w' ⟨v',rfl,ho,_,hb⟩;exact⟨⟨_,rfl,ho⟩,hb⟩
  ·obtain⟨b,off,h5,h6,h7⟩:=h4 h0
   cases h5
   refine Calls.mono (AnyG.slices_Clone_string lz b off l.length cap (l.map ak) w (by rw[jdz];omega) (by omega) yw.texts) ?_;rintro e w' ⟨v',rfl,ho,_,hb⟩;rw[jee (by rw[jdz];omega),jd8]at ho;exact⟨⟨_,rfl,ho⟩,hb⟩
theorem ry{α : Type}[Inhabited α]{enc:α->Value}{w:World}{g q k:Nat}{d:Array α}(h:k≠g):(Sort.putRow enc (Sort.ahead w q) g 0 d).heap[k]?=w.heap[k]?:=by
 simp[Sort.putRow,Sort.mapBlock,Sort.ahead,Array.getElem?_modify,Ne.symm h]
theorem NJ{w:World}{B:Nat}{v:Value}{zs:List (List UInt8)}(h:w.ownsRow B 9 1 v zs.length (zs.map encStr))(hl:zs.length<=256)(hB:B<=w.heap.size) :
  Calls Tryz.prog 208 #[v] w fun e w'=>e=.returned (.tuple #[])/\w'.ownsRow B 9 1 v zs.length ((qe zs).map encStr)/\Below B w w'/\∀ k,k<w.heap.size->v.ownBlock≠some k->w'.heap[k]?=w.heap[k]?:=by
 by_cases hv:v=.slice none 0 0
 ·subst hv
  have rR:zs=[]:=by
   rcases h.2 with ⟨_,h2⟩ | ⟨g,cap,cur,h2,_⟩
   ·exact jdV h2
   ·cases h2
  subst rR;refine Calls.mono (AnyM.slices_Sort_string_none qV none 0 w) ?_;rintro e w' ⟨rfl,rfl⟩;exact⟨rfl,(by unfold qe;rw[List.mergeSort_nil];exact h),jdv _ _,fun _ _ _=>rfl⟩
 ·obtain⟨g,cap,rfl,hb,hg,hc,hm,bR,hH⟩:=holds_of_ownsRow (enc:=encStr) h hv
  refine Calls.mono (AnyM.slices_Sort_string qV g 0 cap zs w hH hg (by omega)) ?_;rintro e w' ⟨rfl,n,os,rfl⟩;have h1:=ownsRow_putRow (enc:=encStr) (q:=n) (k:=zs.length) (ys:=qe zs) h (lj zs) (jdw _);have aH:=below_putRow (enc:=encStr) (q:=n) (d:=(qe zs).toArray) (jdv B w) hb;refine⟨rfl,?_,aH.trans (kt os (by have:=aH.size;omega)),fun k hk fF=>?_⟩
  ·rw[jee (by rw[lj];omega)]at h1
   exact bL h1 (kt os (jdw _))
  ·have hkg:k≠g:=fun e=>fF (by rw[e];rfl)
   have h2:=ry (enc:=encStr) (w:=w) (q:=n) (d:=(qe zs).toArray) hkg;have h3:=aH.size;exact((kt (w:=Sort.putRow encStr (Sort.ahead w n) g 0 (qe zs).toArray) os (jdw _)).block k (jdS hk h3)).trans h2
theorem Bk{w:World}{B:Nat}{v:Value}{zs:List (List UInt8)}(h:w.ownsRow B 9 1 v zs.length (zs.map encStr))(hl:zs.length<=256)(hB:B<=w.heap.size) :
  Calls Tryz.prog 209 #[v] w fun e w'=>(∃ v',e=.returned v'/\w'.ownsRow B 9 1 v' (Lib.compact zs).length ((Lib.compact zs).map encStr))/\Below B w w'/\∀ k,k<w.heap.size->v.ownBlock≠some k->w'.heap[k]?=w.heap[k]?:=by
 by_cases hv:v=.slice none 0 0
 ·subst hv
  have rR:zs=[]:=by
   rcases h.2 with ⟨_,h2⟩ | ⟨g,cap,cur,h2,_⟩
   ·exact jdV h2
   ·cases h2
  subst rR;refine Calls.mono (AnyG.slices_Compact_string_empty pj none 0 w) ?_;rintro e w' ⟨rfl,rfl⟩;exact⟨⟨_,rfl,h⟩,jdv _ _,fun _ _ _=>rfl⟩
 ·obtain⟨g,cap,rfl,hb,hg,hc,hm,bR,hH⟩:=holds_of_ownsRow (enc:=encStr) h hv
  have pB:=Lib.compact_length_le zs;refine Calls.mono (AnyG.slices_Compact_string pj g 0 cap zs w hH (by omega) (by omega)) ?_;rintro e w' ⟨rfl,q,rfl⟩;have h1:=ownsRow_putRow (enc:=encStr) (q:=q) (k:=(Lib.compact zs).length) (ys:=Lib.compact zs++List.replicate (zs.length-(Lib.compact zs).length) []) h (by simp;omega) (by omega);rw[jet]at h1;exact⟨⟨_,rfl,h1⟩,below_putRow (enc:=encStr) (jdv B w) hb,fun k hk fF=>ry (fun e=>fF (by rw[e];rfl))⟩
theorem El{u:List (List Nat)}{x:List Nat}(hr:uq u)(hx:x∈u){t:Nat}(ht:t<u.length):u[t]<x↔t<plT u x:=by
 obtain⟨h1,h2⟩:=kV hx;rw[List.getElem?_eq_getElem h1]at h2;have h3:u[plT u x]=x:=Option.some.inj h2;have hp:=je5.1 hr;constructor
 ·intro h
  rcases jdY t (plT u x)with h4 | h4
  ·exact h4
  ·rcases jdY (plT u x) t with h5 | h5
   ·have h6:=hp _ _ h1 ht h5
    rw[h3]at h6;exact absurd (sC h h6) (je3 _)
   ·obtain rfl:t=plT u x:=by omega
    rw[h3]at h;exact absurd h (je3 _)
 ·intro h
  have:=hp _ _ ht h1 h;rwa[h3]at this
theorem Em{w:World}{v:Value}{u:List (List Nat)}(hs:Sv w v (cC u))(hl:u.length<=256)(hr:uq u)(hu:∀ s∈u,Bs s){x:List Nat}(hx:x∈u) :
  Calls Tryz.prog 234 #[v,.string (ak x)] w fun e w'=>(∃ r,e=.returned (.tuple #[.int .i64 (plT u x:Nat),r]))/\Below w.heap.size w w':=by
 have yw:=hs;obtain⟨a,cap,rfl,h1,h2,h3,h4⟩:=hs;rw[dL]at *;have tn:0<u.length:=List.length_pos_of_mem hx;obtain⟨b,off,rfl,h6,h7⟩:=h4 tn;refine Calls.mono (Any2.slices_BinarySearch_string RU b off u.length cap (fun t=>(u.map ak).getD t (ak x)) (ak x) w (by omega) ?_) ?_
 ·intro j hj
  have:=h7 j _ (cM hj);rw[this,dJ];simp[List.getD_eq_getElem?_getD,hj]
 ·rintro e w' ⟨rfl,q,rfl⟩
  have hk:=(kV hx).1
  have PJ:Lib.bsGo (fun t=>Op.bytesLess ((u.map ak).getD t (ak x)).toList (ak x).toList) u.length 0 u.length=plT u x:=by
   refine Lib.bsGo_spec _ (plT u x) ?_ ?_ _ _ _ (by omega) (by omega) (by omega)
   ·intro t ht
    have QD:t<u.length:=(by omega);have e1:(u.map ak).getD t (ak x)=ak u[t]:=by simp[List.getD_eq_getElem?_getD,QD]
    simp only[e1,bE];rw[nC (hu _ (jdA QD)) (hu _ hx)];exact jdO ((El hr hx QD).2 ht)
   ·intro t ht
    rcases jdY t u.length with QD | QD
    ·have e1:(u.map ak).getD t (ak x)=ak u[t]:=by simp[List.getD_eq_getElem?_getD,QD]
     simp only[e1,bE];rw[nC (hu _ (jdA QD)) (hu _ hx)];refine jdK (fun h=>?_);have:=(El hr hx QD).1 h;omega
    ·have e1:(u.map ak).getD t (ak x)=ak x:=by
      rw[List.getD_eq_getElem?_getD,List.getElem?_eq_none (by rw[jdz];omega)];rfl
     simp only[e1,bE];rw[nC (hu _ hx) (hu _ hx)];exact jdK (je3 _)
  rw[PJ];exact⟨⟨_,rfl⟩,ap (jdv _ _) q⟩
theorem En{w:World}{vu v:Value}{u l:List (List Nat)}(hu:Sv w vu (cC u))(hs:Sv w v (cC l))(hl:l.length<=256)(uE:u.length<=256)(hr:uq u)(hub:∀ s∈u,Bs s)(hm:∀ x∈l,x∈u) :
  Calls Tryz.prog 211 #[vu,v] w fun e w'=>(∃ v',e=.returned v'/\bC w' w.heap.size v' (l.map fun s=>(plT u s:Int)))/\Below w.heap.size w w':=by
 obtain⟨i0,hi,ct,hz1',bv⟩:=jdP zw;have HU:=ae hu;have HS:=ae hs;have HR:=ae hr;have HM:=ae hm;have HUB:=ae hub;obtain⟨a,cap,rfl,aW,bw⟩:=hs.form1;rw[dL]at *;have hcm':cap<=9223372036854775807:=by unfold maxLen at bw;omega
 clear hs hu bw hr hm hub;obtain⟨D,hD⟩:∃ D,(l.map fun s=>(plT u s:Int))=D:=⟨_,rfl⟩;have hDl:D.length=l.length:=by rw[← hD,jdz]
 have PY:jfp (∀ k (h:k<l.length),(aL D)[k]?=some (.int .i64 (plT u l[k]:Nat))):=ae (fun k h=>by rw[← hD];simp[aL,h]);rw[hD];have kQ:=ae hDl;clear hD hDl;go_enter Tryz.func211,Tryz.ntmps211
 go_wp2_with (first | (refine jeA _ rfl _ _ 143 rfl w.heap.size 2 i0 (.int .i64 0) 1 Tryz.underlying143 hi ct hz1' .i64 .i64 _ _ l.length rfl rfl ?m1 ?m2 ?m3 ?m4 ?m5 ?_))
 case m1=>rfl
 case m2=>rfl
 case m3=>rw[bv];omega
 case m4=>unfold maxLen;omega
 case m5=>omega
 intro w4 gN iN;have bK:Below w.heap.size w w4:=(jdv _ _).grown iN (jdw _) (fun k hk=>by cases hk)
 have ho4':w4.ownsRow w.heap.size 2 1 (.slice (some ⟨w.heap.size,0,none⟩) l.length l.length) l.length (dz (.int .i64 0) (aL D) 0):=by
  rw[mL,cy,kQ.o,← jeZ];simpa using gN
 have eR:=ae ho4';have cx:=ae bK;clear gN iN bK ho4';go_wp2_with fail;go_loopw [15] (fun i wr=>∃ k:Nat,i=.int .i64 (k:Int)/\k<=l.length/\wr.ownsRow w.heap.size 2 1 (.slice (some ⟨w.heap.size,0,none⟩) l.length l.length) l.length (dz (.int .i64 0) (aL D) k)/\Below w.heap.size w wr) (fun i _=>l.length-(intOf i).toNat)
 case atStart=>exact⟨0,rfl,by omega,eR.o,cx.o⟩
 case round =>
  obtain⟨k,rfl,hk,how,az⟩:=hrel;have HB:=ae az;have HO:=ae how;have bF:=az.size;clear az how;by_cases aB:k<l.length
  ·have hkD:k<(aL D).length:=by rw[cy,kQ.o];exact aB
   have hval:(aL D)[k]=.int .i64 (plT u l[k]:Nat):=by
    have:=PY.o k aB;rw[List.getElem?_eq_getElem hkD]at this;exact Option.some.inj this
   obtain⟨b,off,rfl,hb,ek⟩:=(HS.o.kept HB.o).at1 (cM aB);have hmem:=HM.o l[k] (jdA aB);have HSr:=ae (Em (HU.o.kept HB.o) uE HR.o HUB.o hmem);have hplt:=(kV hmem).1;have kj:k<(dz (.int .i64 0) (aL D) k).length:=by rw[iA (by omega)];exact hkD
   have tq:=ae (mh (z:=.int .i64 0) hkD);rw[hval]at tq;rw[dJ]at ek;clear hval hmem;generalize ak l[k]=S at *;generalize plT u l[k]=pz at *;generalize hy:(dz (.int .i64 0) (aL D) k)[k]=y;have hyy:=List.getElem?_eq_getElem kj;rw[hy]at hyy;clear hy;go_wp2_with fail;refine HSr.o.mono ?_;rintro e w5 ⟨⟨r,rfl⟩,bD⟩;have fZ:=bL HO.o bD;have aR:=ae (HB.o.trans (bD.mono bF));have FB:=(fZ.cellAt k (by omega)).trans hyy;have FC:=fZ.frozenAt k;have hST:=fZ.stored k (.int .i64 (pz:Nat));rw[tq.o]at hST;have cU:=ae hST;have PC:=(fZ.lt w.heap.size rfl).2;clear hST bD fZ;go_wp2_with fail;go_roundw
   case rel=>exact⟨k+1,by go_num,by omega,cU.o.1,cO aR.o (jdw _) _⟩
   case measure=>simp[intOf];omega
  ·obtain rfl:k=l.length:=by omega
   have e:dz (.int .i64 0) (aL D) l.length=aL D:=by
    have:=oO (.int .i64 0) (aL D);rwa[cy,kQ.o]at this
   rw[e]at HO
   have HO':jfp (bC wr w.heap.size (.slice (some ⟨w.heap.size,0,none⟩) l.length l.length) D):=ae (by
    unfold bC;rw[kQ.o];exact HO.o)
   clear HO e;go_wp2_with fail;go_ret
   exact⟨⟨_,rfl,HO'.o⟩,HB.o⟩
theorem eG{W W':World}{B p:Nat}{x:Value}(h:W.cell? ⟨p,0,none⟩=some x)(hb:Below B W W')(hp:p<B):W'.cell? ⟨p,0,none⟩=some x:=(hb.cell (p:=⟨p,0,none⟩) hp).trans h
theorem nT{l:List (List Nat)}(ht:Ts l)(hl:l.length<=256):(fC l).length<=21525:=(sD ht hl).1
theorem yi{w:World}{g p:Nat}{v vl:Value}{l:List (List Nat)}(hg:Gs w g v [])(hp:p<g)(hc:w.cell? ⟨p,0,none⟩=some vl)(hs:Sv w vl (cC l))(gd:∀ k,vl.ownBlock=some k->k<g)(hl:l.length<=256)(ht:Ts l) :
  Calls Tryz.prog 205 #[.func (.func 168) #[] #[.pointer (some ⟨g,0,none⟩)],.pointer (some ⟨p,0,none⟩)] w (js w g (plain l)):=by
 have HG:=ae hg;have Cd:=hg.lt;have HC:=ae hc;have HS:=ae hs;have rT:=ae gd;have HT:=ae ht;have Co:=ae (eW (hg.kept (am w (.cells #[.int .u8 0] 5))) (cG w 0).sv (by simp));have cP:(w.alloc (.cells #[.int .u8 0] 5)).heap.size=w.heap.size+1:=jdx _ _;clear hg hc hs gd ht;go_enter Tryz.func205,Tryz.ntmps205
 go_wp2_with fail;refine Co.o.mono ?_;rintro e w1 ⟨rfl,⟨v1,eS⟩,aH,_⟩;have aQ:=ae (((am w (.cells #[.int .u8 0] 5)).mono (jdU Cd)).trans aH);have lp:=eG HC.o aQ.o hp;have Fx:=ae (tV eS (by simp) (HS.o.keptB rT.o aQ.o) rT.o hl HT.o);obtain⟨a,cap,rfl,_,_⟩:=HS.o.form1;clear eS aH;go_wp2_with fail;refine Fx.o.mono ?_;rintro e w2 ⟨rfl,⟨v2,ik⟩,aE⟩;have Kr:=ae ik;have aO:=ae (aQ.o.trans aE);clear ik aE;go_wp2_with fail;go_end0
 exact⟨rfl,⟨_,Kr.o⟩,aO.o⟩
theorem Bl{w:World}{vl:Value}{l:List (List Nat)}(hs:Sv w vl (cC l))(gd:∀ k,vl.ownBlock=some k->k<w.heap.size)(hl:l.length<=256)(ht:Ts l) :
  Calls Tryz.prog 172 #[vl] w (dw w (plain l)):=by
 obtain⟨a,cap,rfl,_,_⟩:=hs.form1
 have HGA:=ae (Tq (w:=w.alloc (.cells #[.slice a (cC l).length cap] 144)) (p:=.pointer (some ⟨w.heap.size,0,none⟩)) (bs:=plain l) (fun W hg hb=>by
  have hz:=jdx w (.cells #[.slice a (cC l).length cap] 144);refine yi hg (by omega) ?_ ((hs.kept (am w _)).kept hb) (fun k hk=>by have:=gd k hk;omega) hl ht;rw[hb.cell (p:=⟨w.heap.size,0,none⟩) (by show w.heap.size<_;omega)];exact aK _ _ _))
 have HB:=ae (am w (.cells #[.slice a (cC l).length cap] 144));have hz:=jdx w (.cells #[.slice a (cC l).length cap] 144);clear hs gd ht;generalize plain l=bs at *;generalize (cC l).length=n at *;go_enter Tryz.func172,Tryz.ntmps172
 go_wp2_with fail;refine HGA.o.mono ?_;rintro e w1 ⟨⟨v1,rfl,eH⟩,aH⟩;have eY:=ae (eH.low (B:=w.heap.size) (by omega));have aQ:=ae (HB.o.trans (aH.mono (by omega)));clear eH aH;go_wp2_with fail;go_ret
 exact⟨⟨_,rfl,eY.o⟩,aQ.o⟩
end Go.Proofs.YtpljdjmpamjkhaaGreatDoor
