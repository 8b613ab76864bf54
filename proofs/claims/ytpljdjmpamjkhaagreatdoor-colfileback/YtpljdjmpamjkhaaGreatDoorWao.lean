import Derived.Test.YtpljdjmpamjkhaaGreatDoorWan
set_option linter.unusedVariables false
set_option linter.unusedSimpArgs false
set_option maxRecDepth 100000
set_option maxHeartbeats 4000000
namespace Go.Proofs.YtpljdjmpamjkhaaGreatDoor
open Go.RowKit Go.Lib
theorem pr{l:List (List Nat)}{k:Nat}(h:k<l.length):(l.take (k+1)).flatten=(l.take k).flatten++l[k]:=by
 rw[YP h,jas];simp
theorem qL{l:List (List Nat)}(ht:Ts l)(hl:l.length<=256)(k:Nat):(l.take k).flatten.length<=16384:=by
 have h:=(mq (l:=l.take k) fun s hs=>ht s (ZA hs)).1;rw[YH]at h;omega
theorem rR{w:World}{g:Nat}{v vl:Value}{bs:List Nat}{l:List (List Nat)}(hg:Gs w g v bs)(Cv:bs.length<=100000)(hs:Sv w vl (cm l))(eQ:∀ k,vl.ownBlock=some k->k<g)(hl:l.length<=256)(ht:Ts l) :
  Calls Tryz.prog 206 #[.func (.func 168) #[] #[.pointer (some ⟨g,0,none⟩)],vl] w (io w g (bs++iw l)):=by
 obtain⟨i0,hi,bN,hz1',bh⟩:=YW Ak;have HG:=ae hg;have zb:=hg.lt;have HS:=ae hs;have HT:=ae ht;have pU:=ae eQ;obtain⟨a,cap,rfl,aV,bw⟩:=hs.form1;rw[ei]at *;have hcm':cap<=9223372036854775807:=by unfold maxLen at bw;omega
 have HTX:jaH (iw l=cnt (gh l)++l.flatten):=rfl;have uZ:=ae (fun k=>qL ht hl k);obtain⟨D,hD⟩:∃ D,gh l=D:=⟨_,rfl⟩;have hDl:D.length=l.length:=by rw[← hD,bK]
 have HDI:jaH (Is D):=ae (hD ▸ iU ht);have QB:jaH (∀ k (h:k<l.length),(aH D)[k]?=some (.int .i64 ((ai l[k]).size:Int))):=ae (fun k h=>by rw[← hD];simp[gh,aH,h,bx]);rw[hD]at HTX;have ln:=ae hDl
 have fT:(cnt D).length<=5141:=by
  have h1:=pq HDI.o (by omega);have h2:=cC (n:=(dm D).length) (by omega);unfold cnt;rw[YC];omega
 clear hs bw hD hDl hg ht eQ;go_enter Tryz.func206,Tryz.ntmps206
 go_wp2_with (first | (refine ZJ _ rfl _ _ 143 rfl w.heap.size 2 i0 (.int .i64 0) 1 Tryz.underlying143 hi bN hz1' .i64 .i64 _ _ l.length rfl rfl ?m1 ?m2 ?m3 ?m4 ?m5 ?_))
 case m1=>rfl
 case m2=>rfl
 case m3=>rw[bh];omega
 case m4=>unfold maxLen;omega
 case m5=>omega
 intro w4 fC gH;have bm:Below w.heap.size w w4:=(Yz _ _).grown gH (YA _) (fun k hk=>by cases hk)
 have ho4':w4.ownsRow w.heap.size 2 1 (.slice (some ⟨w.heap.size,0,none⟩) l.length l.length) l.length (cI (.int .i64 0) (aH D) 0):=by
  rw[kY,bL,ln.o,← jal];simpa using fC
 have fU:=ae ho4';have cA:=ae bm;clear fC gH bm ho4';go_wp2_with fail;go_loopw [14] (fun i wr=>∃ k:Nat,i=.int .i64 (k:Int)/\k<=l.length/\wr.ownsRow w.heap.size 2 1 (.slice (some ⟨w.heap.size,0,none⟩) l.length l.length) l.length (cI (.int .i64 0) (aH D) k)/\Below w.heap.size w wr) (fun i _=>l.length-(intOf i).toNat)
 case atStart=>exact⟨0,rfl,by omega,fU.o,cA.o⟩
 case round =>
  obtain⟨k,rfl,hk,how,ao⟩:=hrel;have HB:=ae ao;have HO:=ae how;have bM:=ao.size;clear ao how;by_cases ar:k<l.length
  ·have hkD:k<(aH D).length:=by rw[bL,ln.o];exact ar
   have hval:(aH D)[k]=.int .i64 ((ai l[k]).size:Int):=by
    have:=QB.o k ar;rw[List.getElem?_eq_getElem hkD]at this;exact Option.some.inj this
   obtain⟨b,off,rfl,hb,ek⟩:=(HS.o.kept HB.o).at1 (fI ar);have ja:k<(cI (.int .i64 0) (aH D) k).length:=by rw[gq (by omega)];exact hkD
   have uV:=ae (kH (z:=.int .i64 0) hkD);have eo:=HO.o;have Ca:=(eo.cellAt k (by omega)).trans (List.getElem?_eq_getElem ja);have Cb:=eo.frozenAt k;have hST:=eo.stored k (.int .i64 ((ai l[k]).size:Int));rw[← hval,uV.o]at hST;rw[hval]at hST;have co:=ae hST;have Qf:=(eo.lt w.heap.size rfl).2;have ll:(ai l[k]).size<=64:=by rw[bx];exact(HT.o _ (YF ar)).1
   rw[fD]at ek;clear hST eo hval;generalize (cI (.int .i64 0) (aH D) k)[k]=y at *;generalize ai l[k]=S at *;go_wp2_with fail;go_roundw
   case rel=>exact⟨k+1,by go_num,by omega,co.o.1,cH HB.o (YA _) _⟩
   case measure=>simp[intOf];omega
  ·obtain rfl:k=l.length:=by omega
   have e:cI (.int .i64 0) (aH D) l.length=aH D:=by
    have:=mB (.int .i64 0) (aH D);rwa[bL,ln.o]at this
   rw[e]at HO
   have ho':bU wr w.heap.size (.slice (some ⟨w.heap.size,0,none⟩) l.length l.length) D:=by
    unfold bU;rw[ln.o];exact HO.o
   have HCT:=ae (AQ ho'.sv (by rw[ln.o];exact hl) HDI.o);have HGr:=ae (HG.o.kept HB.o);clear e ho' HO;go_wp2_with fail;refine HCT.o.mono ?_;rintro e w6 ⟨⟨v6,rfl,xw⟩,dP⟩;have WW:=ae (eb (HGr.o.kept dP) xw.sv (by omega));have jA:=ae (HB.o.trans (dP.mono bM));have Fi:=dP.size;clear xw dP;go_wp2_with fail;refine WW.o.mono ?_;rintro e w7 ⟨rfl,⟨v7,hg7⟩,jK,_⟩;have HG7:=ae hg7;have pT:=ae ((jA.o.mono (YV zb)).trans jK);clear hg7 jK;go_wp2_with fail;go_loopw [31] (fun i wr=>∃ k:Nat,i=.int .i64 (k:Int)/\k<=l.length/\(∃ v',Gs wr g v' (bs++cnt D++(l.take k).flatten))/\Below g w wr) (fun i _=>l.length-(intOf i).toNat)
   case atStart=>exact⟨0,rfl,by omega,⟨v7,by simpa using HG7.o⟩,pT.o⟩
   case round =>
    obtain⟨k,rfl,hk,⟨vq,hgq⟩,KN⟩:=hrel;have HGQ:=ae hgq;have HBQ:=ae KN;have XT:=KN.size;clear hgq KN;by_cases ar:k<l.length
    ·obtain⟨b,off,rfl,hb,ek⟩:=(HS.o.keptB pU.o HBQ.o).at1 (fI ar)
     obtain⟨Cs,htb⟩:=HT.o _ (YF ar);obtain⟨gc,cc,wc,Le,uO,hbc,hzc⟩:=Eg htb (by omega) wr;rw[fD]at ek;have Ch:=ae (pr ar);have ja:=uZ.o k;have HPQ:=ae (eb (HGQ.o.kept hbc) uO (by simp only[YC];omega));have HBC:=ae (HBQ.o.trans (hbc.mono (YG (YV HGQ.o.lt) (YA _))));have gV:g<wr.heap.size:=HGQ.o.lt;clear uO hbc htb Cs;generalize ai l[k]=S at *;generalize l[k]=x at *;go_wp2_with fail;refine HPQ.o.mono ?_;rintro e w8 ⟨rfl,⟨v8,WX⟩,lm,_⟩;rw[YR,← Ch.o]at WX;have Yb:=ae WX;have uL:=ae (HBC.o.trans lm);clear WX lm;go_wp2_with fail;go_roundw
     case rel=>exact⟨k+1,by go_num,by omega,⟨_,Yb.o⟩,uL.o⟩
     case measure=>simp[intOf];omega
    ·obtain rfl:k=l.length:=by omega
     rw[YK,YR,← HTX.o]at HGQ;go_wp2_with fail;go_end0
     exact⟨rfl,⟨_,HGQ.o⟩,HBQ.o⟩
open Go.Shelf
theorem NT:∀{a b:List UInt8},a<b↔a.map UInt8.toNat<b.map UInt8.toNat
 | [],[]=>by simp
 | [],y::t=>by simp
 | x::s,[]=>by simp
 | x::s,y::t=>by
  have ih:=NT (a:=s) (b:=t);have h3:(x::s<y::t)↔(x<y∨x=y/\s<t):=List.cons_lt_cons_iff;have h4:(x.toNat::s.map UInt8.toNat<y.toNat::t.map UInt8.toNat)↔(x.toNat<y.toNat∨x.toNat=y.toNat/\s.map UInt8.toNat<t.map UInt8.toNat):=List.cons_lt_cons_iff;have h5:x=y↔x.toNat=y.toNat:=⟨fun e=>by rw[e],fun e=>UInt8.toNat_inj.1 e⟩;rw[Zh,Zh,h3,h4,ih,UInt8.lt_iff_toNat_lt,h5]
theorem NU{x y:List UInt8}(h1:x≠y)(h2:¬ y<x):x<y:=by
 rcases List.le_iff_lt_or_eq.1 (show x<=y from h2)with h | h
 ·exact h
 ·exact absurd h h1
def nU(l:List (List UInt8)):List (List UInt8):=l.mergeSort fun x y=>decide (x<=y)
theorem jW(l:List (List UInt8)):(nU l).length=l.length:=List.length_mergeSort l
theorem kZ{l:List (List UInt8)}:∀ m,m<=l.length->∀ z,z∈compactUpTo l.toArray m↔z∈l.take m
 | 0,_,z=>by simp[compactUpTo]
 | m+1,hm,z=>by
  have ih:=kZ (l:=l) m (by omega);have hg:l.toArray[m]! = l[m]:=by simp[show m<l.length by omega]
  rw[compactUpTo_succ,Zg,ih z,YP (by omega),Zg,hg];by_cases hk:keeps l.toArray m=true
  ·rw[Yy hk]
  ·rw[Yx hk]
   constructor
   ·rintro(h | h)
    ·exact Or.inl h
    ·simp at h
   ·rintro(h | h)
    ·exact Or.inl h
    ·left
     have h':z=l[m]:=by simpa using h
     unfold keeps at hk;simp only[Zu]at hk;have ew:l.toArray[m-1]! = l[m-1]:=by simp[show m-1<l.length by omega]
     rw[hg,ew]at hk;have WE:m≠0:=fun e=>hk (Or.inl e)
     have he:l[m]=l[m-1]:=Decidable.byContradiction fun e=>hk (Or.inr e)
     rw[h',he];exact jaG.2 ⟨m-1,by omega,rfl⟩
theorem lx{l:List (List UInt8)}(hs:l.Pairwise (·<=·)):∀ m,m<=l.length->(compactUpTo l.toArray m).Pairwise (· < ·)
 | 0,_=>by simp[compactUpTo]
 | m+1,hm=>by
  have ih:=lx hs m (by omega);have hg:l.toArray[m]! = l[m]:=by simp[show m<l.length by omega]
  rw[compactUpTo_succ,hg];by_cases hk:keeps l.toArray m=true
  ·rw[Yy hk]
   refine List.pairwise_append.2 ⟨ih,by simp,fun a ha b hb=>?_⟩;have hb':b=l[m]:=by simpa using hb
   subst hb';have h1:=(kZ m (by omega) a).1 ha;obtain⟨j,hj,rfl⟩:=jaG.1 h1;have hjm:j<m:=(by omega);unfold keeps at hk;simp only[Zu]at hk;have ew:l.toArray[m-1]! = l[m-1]:=by simp[show m-1<l.length by omega]
   rw[hg,ew]at hk
   have h2:l[m]≠l[m-1]:=by
    rcases hk with h | h
    ·omega
    ·exact h
   have h3:l[m-1]<=l[m]:=jaA.1 hs (m-1) m (by omega) (by omega) (by omega)
   have h4:l[j]<=l[m-1]:=by
    rcases Zd j (m-1)with h | h
    ·exact jaA.1 hs j (m-1) (by omega) (by omega) h
    ·have:j=m-1:=by omega
     subst this;exact List.le_refl _
   have h5:l[m-1]<l[m]:=NU (fun e=>h2 e.symm) h3;exact List.lt_of_le_of_lt h4 h5
  ·rw[Yx hk,YZ]
   exact ih
theorem yy(l:List (List UInt8)):(Lib.compact (nU l)).map (fun s=>s.map UInt8.toNat)=tuq (l.map fun s=>s.map UInt8.toNat):=by
 have hs:(nU l).Pairwise (·<=·):=by
  have:=List.pairwise_mergeSort (le:=fun x y:List UInt8=>decide (x<=y)) (fun a b c h1 h2=>by simp only[Zu]at *;exact List.le_trans h1 h2) (fun a b=>by simp only[Bool.or_eq_true,Zu];exact List.le_total a b) l;exact this.imp (fun h=>by simpa using h)
 refine ru ?_ (tH _) (fun z=>?_)
 ·exact List.pairwise_map.2 ((lx hs _ (YA _)).imp fun h=>NT.1 h)
 ·rw[oM]
  have hm:=fun y=>kZ (l:=nU l) (nU l).length (YA _) y
  rw[YK]at hm;unfold Lib.compact;simp only[YS,hm];constructor
  ·rintro⟨y,hy,rfl⟩
   exact⟨y,List.mem_mergeSort.1 hy,rfl⟩
  ·rintro⟨y,hy,rfl⟩
   exact⟨y,List.mem_mergeSort.2 hy,rfl⟩
def upT(l:List (List Nat)):List (List UInt8):=l.map fun s=>s.map Nat.toUInt8
def dnT(l:List (List UInt8)):List (List Nat):=l.map fun s=>s.map UInt8.toNat
theorem AR(l:List (List Nat)):cm l=(upT l).map encStr:=by
 unfold cm upT;rw[Zk];rfl
theorem up_dn(u:List (List UInt8)):upT (dnT u)=u:=by
 unfold upT dnT;rw[Zk];conv=>rhs;rw[← ZE u]
 apply ZK
 intro s _;simp only[Function.comp,Zk,id];conv=>rhs;rw[← ZE s]
 apply ZK
 intro x _;simp
theorem dn_up{l:List (List Nat)}(h:∀ s∈l,Bs s):dnT (upT l)=l:=by
 unfold upT dnT;rw[Zk];conv=>rhs;rw[← ZE l]
 apply ZK
 intro s hs;exact jL (h s hs)
theorem qM(l:List (List Nat)):(upT l).length=l.length:=YD _
theorem Eh{l:List (List Nat)}(h:∀ s∈l,Bs s):Lib.compact (nU (upT l))=upT (tuq l):=by
 have h1:=yy (upT l);have h2:(upT l).map (fun s=>s.map UInt8.toNat)=l:=dn_up h;rw[h2]at h1;rw[← h1];exact(up_dn _).symm
theorem Sv.texts{W:World}{b off n cap:Nat}{l:List (List Nat)}(h:Sv W (.slice (some ⟨b,off,none⟩) n cap) (cm l)):∀ j,j<(l.map ai).length->W.cell? ⟨b,off+j,none⟩=some (.string ((l.map ai).getD j ByteArray.empty)):=by
 intro j hj;rw[YD]at hj;obtain⟨b',off',h1,_,h2⟩:=h.at1 (fI hj);cases h1
 rw[h2,fD];simp[List.getD_eq_getElem?_getD,hj]
theorem Ei{w:World}{v:Value}{l:List (List Nat)}(hs:Sv w v (cm l))(hl:l.length<=256) :
  Calls Tryz.prog 207 #[v] w fun e w'=>(∃ v',e=.returned v'/\ij w' w.heap.size v' l)/\Below w.heap.size w w':=by
 have Gv:=hs;obtain⟨a,cap,rfl,h1,h2,h3,h4⟩:=hs;rw[ei]at *;cases a with
 | none =>
  have hc:=h3 rfl;have sQ:l=[]:=YU (by omega);subst sQ;refine Calls.mono (AnyG.slices_Clone_string_nil ke _ _ w) ?_;rintro e w' ⟨rfl,rfl⟩;exact⟨⟨_,rfl,ij.nil _ _⟩,Yz _ _⟩
 | some a =>
  rcases Zw l.length with h0 | h0
  ·have sQ:l=[]:=YU h0
   subst sQ;refine Calls.mono (AnyG.slices_Clone_string_zero ke a cap w) ?_;rintro e w' ⟨v',rfl,ho,_,hb⟩;exact⟨⟨_,rfl,ho⟩,hb⟩
  ·obtain⟨b,off,h5,h6,h7⟩:=h4 h0
   cases h5
   refine Calls.mono (AnyG.slices_Clone_string ke b off l.length cap (l.map ai) w (by rw[YD];omega) (by omega) Gv.texts) ?_;rintro e w' ⟨v',rfl,ho,_,hb⟩;rw[Zo (by rw[YD];omega),Zk]at ho;exact⟨⟨_,rfl,ho⟩,hb⟩
theorem pt{α : Type}[Inhabited α]{enc:α->Value}{w:World}{g q k:Nat}{d:Array α}(h:k≠g):(Sort.putRow enc (Sort.ahead w q) g 0 d).heap[k]?=w.heap[k]?:=by
 simp[Sort.putRow,Sort.mapBlock,Sort.ahead,Array.getElem?_modify,Ne.symm h]
theorem JJ{w:World}{B:Nat}{v:Value}{zs:List (List UInt8)}(h:w.ownsRow B 9 1 v zs.length (zs.map encStr))(hl:zs.length<=256)(hB:B<=w.heap.size) :
  Calls Tryz.prog 208 #[v] w fun e w'=>e=.returned (.tuple #[])/\w'.ownsRow B 9 1 v zs.length ((nU zs).map encStr)/\Below B w w'/\∀ k,k<w.heap.size->v.ownBlock≠some k->w'.heap[k]?=w.heap[k]?:=by
 by_cases hv:v=.slice none 0 0
 ·subst hv
  have sQ:zs=[]:=by
   rcases h.2 with ⟨_,h2⟩ | ⟨g,cap,cur,h2,_⟩
   ·exact YU h2
   ·cases h2
  subst sQ;refine Calls.mono (AnyM.slices_Sort_string_none oX none 0 w) ?_;rintro e w' ⟨rfl,rfl⟩;exact⟨rfl,(by unfold nU;rw[List.mergeSort_nil];exact h),Yz _ _,fun _ _ _=>rfl⟩
 ·obtain⟨g,cap,rfl,hb,hg,hc,hm,bg,hH⟩:=holds_of_ownsRow (enc:=encStr) h hv
  refine Calls.mono (AnyM.slices_Sort_string oX g 0 cap zs w hH hg (by omega)) ?_;rintro e w' ⟨rfl,n,os,rfl⟩;have h1:=ownsRow_putRow (enc:=encStr) (q:=n) (k:=zs.length) (ys:=nU zs) h (jW zs) (YA _);have aA:=below_putRow (enc:=encStr) (q:=n) (d:=(nU zs).toArray) (Yz B w) hb;refine⟨rfl,?_,aA.trans (jm os (by have:=aA.size;omega)),fun k hk fb=>?_⟩
  ·rw[Zo (by rw[jW];omega)]at h1
   exact bP h1 (jm os (YA _))
  ·have hkg:k≠g:=fun e=>fb (by rw[e];rfl)
   have h2:=pt (enc:=encStr) (w:=w) (q:=n) (d:=(nU zs).toArray) hkg;have h3:=aA.size;exact((jm (w:=Sort.putRow encStr (Sort.ahead w n) g 0 (nU zs).toArray) os (YA _)).block k (Za hk h3)).trans h2
theorem yz{w:World}{B:Nat}{v:Value}{zs:List (List UInt8)}(h:w.ownsRow B 9 1 v zs.length (zs.map encStr))(hl:zs.length<=256)(hB:B<=w.heap.size) :
  Calls Tryz.prog 209 #[v] w fun e w'=>(∃ v',e=.returned v'/\w'.ownsRow B 9 1 v' (Lib.compact zs).length ((Lib.compact zs).map encStr))/\Below B w w'/\∀ k,k<w.heap.size->v.ownBlock≠some k->w'.heap[k]?=w.heap[k]?:=by
 by_cases hv:v=.slice none 0 0
 ·subst hv
  have sQ:zs=[]:=by
   rcases h.2 with ⟨_,h2⟩ | ⟨g,cap,cur,h2,_⟩
   ·exact YU h2
   ·cases h2
  subst sQ;refine Calls.mono (AnyG.slices_Compact_string_empty mY none 0 w) ?_;rintro e w' ⟨rfl,rfl⟩;exact⟨⟨_,rfl,h⟩,Yz _ _,fun _ _ _=>rfl⟩
 ·obtain⟨g,cap,rfl,hb,hg,hc,hm,bg,hH⟩:=holds_of_ownsRow (enc:=encStr) h hv
  have ob:=Lib.compact_length_le zs;refine Calls.mono (AnyG.slices_Compact_string mY g 0 cap zs w hH (by omega) (by omega)) ?_;rintro e w' ⟨rfl,q,rfl⟩;have h1:=ownsRow_putRow (enc:=encStr) (q:=q) (k:=(Lib.compact zs).length) (ys:=Lib.compact zs++List.replicate (zs.length-(Lib.compact zs).length) []) h (by simp;omega) (by omega);rw[ZB]at h1;exact⟨⟨_,rfl,h1⟩,below_putRow (enc:=encStr) (Yz B w) hb,fun k hk fb=>pt (fun e=>fb (by rw[e];rfl))⟩
theorem AU{u:List (List Nat)}{x:List Nat}(hr:sy u)(hx:x∈u){t:Nat}(ht:t<u.length):u[t]<x↔t<plT u x:=by
 obtain⟨h1,h2⟩:=mo hx;rw[List.getElem?_eq_getElem h1]at h2;have h3:u[plT u x]=x:=Option.some.inj h2;have hp:=jaA.1 hr;constructor
 ·intro h
  rcases Zd t (plT u x)with h4 | h4
  ·exact h4
  ·rcases Zd (plT u x) t with h5 | h5
   ·have h6:=hp _ _ h1 ht h5
    rw[h3]at h6;exact absurd (qp h h6) (List.lt_irrefl _)
   ·obtain rfl:t=plT u x:=by omega
    rw[h3]at h;exact absurd h (List.lt_irrefl _)
 ·intro h
  have:=hp _ _ ht h1 h;rwa[h3]at this
theorem AV{w:World}{v:Value}{u:List (List Nat)}(hs:Sv w v (cm u))(hl:u.length<=256)(hr:sy u)(hu:∀ s∈u,Bs s){x:List Nat}(hx:x∈u) :
  Calls Tryz.prog 234 #[v,.string (ai x)] w fun e w'=>(∃ r,e=.returned (.tuple #[.int .i64 (plT u x:Nat),r]))/\Below w.heap.size w w':=by
 have Gv:=hs;obtain⟨a,cap,rfl,h1,h2,h3,h4⟩:=hs;rw[ei]at *;have PZ:0<u.length:=List.length_pos_of_mem hx;obtain⟨b,off,rfl,h6,h7⟩:=h4 PZ;refine Calls.mono (Any2.slices_BinarySearch_string Mx b off u.length cap (fun t=>(u.map ai).getD t (ai x)) (ai x) w (by omega) ?_) ?_
 ·intro j hj
  have:=h7 j _ (fI hj);rw[this,fD];simp[List.getD_eq_getElem?_getD,hj]
 ·rintro e w' ⟨rfl,q,rfl⟩
  have hk:=(mo hx).1
  have Cv:Lib.bsGo (fun t=>Op.bytesLess ((u.map ai).getD t (ai x)).toList (ai x).toList) u.length 0 u.length=plT u x:=by
   refine Lib.bsGo_spec _ (plT u x) ?_ ?_ _ _ _ (by omega) (by omega) (by omega)
   ·intro t ht
    have KO:t<u.length:=(by omega);have e1:(u.map ai).getD t (ai x)=ai u[t]:=by simp[List.getD_eq_getElem?_getD,KO]
    simp only[e1,ee];rw[oC (hu _ (YF KO)) (hu _ hx)];exact YT ((AU hr hx KO).2 ht)
   ·intro t ht
    rcases Zd t u.length with KO | KO
    ·have e1:(u.map ai).getD t (ai x)=ai u[t]:=by simp[List.getD_eq_getElem?_getD,KO]
     simp only[e1,ee];rw[oC (hu _ (YF KO)) (hu _ hx)];refine YO (fun h=>?_);have:=(AU hr hx KO).1 h;omega
    ·have e1:(u.map ai).getD t (ai x)=ai x:=by
      rw[List.getD_eq_getElem?_getD,List.getElem?_eq_none (by rw[YD];omega)];rfl
     simp only[e1,ee];rw[oC (hu _ hx) (hu _ hx)];exact YO (List.lt_irrefl _)
  rw[Cv];exact⟨⟨_,rfl⟩,ak (Yz _ _) q⟩
theorem AW{w:World}{vu v:Value}{u l:List (List Nat)}(hu:Sv w vu (cm u))(hs:Sv w v (cm l))(hl:l.length<=256)(Kw:u.length<=256)(hr:sy u)(hub:∀ s∈u,Bs s)(hm:∀ x∈l,x∈u) :
  Calls Tryz.prog 211 #[vu,v] w fun e w'=>(∃ v',e=.returned v'/\bU w' w.heap.size v' (l.map fun s=>(plT u s:Int)))/\Below w.heap.size w w':=by
 obtain⟨i0,hi,bN,hz1',bh⟩:=YW Ak;have HU:=ae hu;have HS:=ae hs;have HR:=ae hr;have HM:=ae hm;have HUB:=ae hub;obtain⟨a,cap,rfl,aV,bw⟩:=hs.form1;rw[ei]at *;have hcm':cap<=9223372036854775807:=by unfold maxLen at bw;omega
 clear hs hu bw hr hm hub;obtain⟨D,hD⟩:∃ D,(l.map fun s=>(plT u s:Int))=D:=⟨_,rfl⟩;have hDl:D.length=l.length:=by rw[← hD,YD]
 have QB:jaH (∀ k (h:k<l.length),(aH D)[k]?=some (.int .i64 (plT u l[k]:Nat))):=ae (fun k h=>by rw[← hD];simp[aH,h]);rw[hD];have ln:=ae hDl;clear hD hDl;go_enter Tryz.func211,Tryz.ntmps211
 go_wp2_with (first | (refine ZJ _ rfl _ _ 143 rfl w.heap.size 2 i0 (.int .i64 0) 1 Tryz.underlying143 hi bN hz1' .i64 .i64 _ _ l.length rfl rfl ?m1 ?m2 ?m3 ?m4 ?m5 ?_))
 case m1=>rfl
 case m2=>rfl
 case m3=>rw[bh];omega
 case m4=>unfold maxLen;omega
 case m5=>omega
 intro w4 fC gH;have bm:Below w.heap.size w w4:=(Yz _ _).grown gH (YA _) (fun k hk=>by cases hk)
 have ho4':w4.ownsRow w.heap.size 2 1 (.slice (some ⟨w.heap.size,0,none⟩) l.length l.length) l.length (cI (.int .i64 0) (aH D) 0):=by
  rw[kY,bL,ln.o,← jal];simpa using fC
 have fU:=ae ho4';have cA:=ae bm;clear fC gH bm ho4';go_wp2_with fail;go_loopw [15] (fun i wr=>∃ k:Nat,i=.int .i64 (k:Int)/\k<=l.length/\wr.ownsRow w.heap.size 2 1 (.slice (some ⟨w.heap.size,0,none⟩) l.length l.length) l.length (cI (.int .i64 0) (aH D) k)/\Below w.heap.size w wr) (fun i _=>l.length-(intOf i).toNat)
 case atStart=>exact⟨0,rfl,by omega,fU.o,cA.o⟩
 case round =>
  obtain⟨k,rfl,hk,how,ao⟩:=hrel;have HB:=ae ao;have HO:=ae how;have bM:=ao.size;clear ao how;by_cases ar:k<l.length
  ·have hkD:k<(aH D).length:=by rw[bL,ln.o];exact ar
   have hval:(aH D)[k]=.int .i64 (plT u l[k]:Nat):=by
    have:=QB.o k ar;rw[List.getElem?_eq_getElem hkD]at this;exact Option.some.inj this
   obtain⟨b,off,rfl,hb,ek⟩:=(HS.o.kept HB.o).at1 (fI ar);have hmem:=HM.o l[k] (YF ar);have HSr:=ae (AV (HU.o.kept HB.o) Kw HR.o HUB.o hmem);have hplt:=(mo hmem).1;have ja:k<(cI (.int .i64 0) (aH D) k).length:=by rw[gq (by omega)];exact hkD
   have uV:=ae (kH (z:=.int .i64 0) hkD);rw[hval]at uV;rw[fD]at ek;clear hval hmem;generalize ai l[k]=S at *;generalize plT u l[k]=pz at *;generalize hy:(cI (.int .i64 0) (aH D) k)[k]=y;have hyy:=List.getElem?_eq_getElem ja;rw[hy]at hyy;clear hy;go_wp2_with fail;refine HSr.o.mono ?_;rintro e w5 ⟨⟨r,rfl⟩,bv⟩;have eo:=bP HO.o bv;have aJ:=ae (HB.o.trans (bv.mono bM));have Ca:=(eo.cellAt k (by omega)).trans hyy;have Cb:=eo.frozenAt k;have hST:=eo.stored k (.int .i64 (pz:Nat));rw[uV.o]at hST;have co:=ae hST;have Qf:=(eo.lt w.heap.size rfl).2;clear hST bv eo;go_wp2_with fail;go_roundw
   case rel=>exact⟨k+1,by go_num,by omega,co.o.1,cH aJ.o (YA _) _⟩
   case measure=>simp[intOf];omega
  ·obtain rfl:k=l.length:=by omega
   have e:cI (.int .i64 0) (aH D) l.length=aH D:=by
    have:=mB (.int .i64 0) (aH D);rwa[bL,ln.o]at this
   rw[e]at HO
   have HO':jaH (bU wr w.heap.size (.slice (some ⟨w.heap.size,0,none⟩) l.length l.length) D):=ae (by
    unfold bU;rw[ln.o];exact HO.o)
   clear HO e;go_wp2_with fail;go_ret
   exact⟨⟨_,rfl,HO'.o⟩,HB.o⟩
theorem dH{W W':World}{B p:Nat}{x:Value}(h:W.cell? ⟨p,0,none⟩=some x)(hb:Below B W W')(hp:p<B):W'.cell? ⟨p,0,none⟩=some x:=(hb.cell (p:=⟨p,0,none⟩) hp).trans h
theorem NV{l:List (List Nat)}(ht:Ts l)(hl:l.length<=256):(iw l).length<=21525:=(qr ht hl).1
theorem vC{w:World}{g p:Nat}{v vl:Value}{l:List (List Nat)}(hg:Gs w g v [])(hp:p<g)(hc:w.cell? ⟨p,0,none⟩=some vl)(hs:Sv w vl (cm l))(eQ:∀ k,vl.ownBlock=some k->k<g)(hl:l.length<=256)(ht:Ts l) :
  Calls Tryz.prog 205 #[.func (.func 168) #[] #[.pointer (some ⟨g,0,none⟩)],.pointer (some ⟨p,0,none⟩)] w (io w g (plain l)):=by
 have HG:=ae hg;have zb:=hg.lt;have HC:=ae hc;have HS:=ae hs;have pU:=ae eQ;have HT:=ae ht;have Cr:=ae (eb (hg.kept (aj w (.cells #[.int .u8 0] 5))) (gl w 0).sv (by simp));have cG:(w.alloc (.cells #[.int .u8 0] 5)).heap.size=w.heap.size+1:=YB _ _;clear hg hc hs eQ ht;go_enter Tryz.func205,Tryz.ntmps205
 go_wp2_with fail;refine Cr.o.mono ?_;rintro e w1 ⟨rfl,⟨v1,ew⟩,aA,_⟩;have aN:=ae (((aj w (.cells #[.int .u8 0] 5)).mono (YV zb)).trans aA);have jy:=dH HC.o aN.o hp;have Qd:=ae (rR ew (by simp) (HS.o.keptB pU.o aN.o) pU.o hl HT.o);obtain⟨a,cap,rfl,_,_⟩:=HS.o.form1;clear ew aA;go_wp2_with fail;refine Qd.o.mono ?_;rintro e w2 ⟨rfl,⟨v2,gx⟩,ay⟩;have Fk:=ae gx;have aK:=ae (aN.o.trans ay);clear gx ay;go_wp2_with fail;go_end0
 exact⟨rfl,⟨_,Fk.o⟩,aK.o⟩
theorem yA{w:World}{vl:Value}{l:List (List Nat)}(hs:Sv w vl (cm l))(eQ:∀ k,vl.ownBlock=some k->k<w.heap.size)(hl:l.length<=256)(ht:Ts l) :
  Calls Tryz.prog 172 #[vl] w (dJ w (plain l)):=by
 obtain⟨a,cap,rfl,_,_⟩:=hs.form1
 have HGA:=ae (NQ (w:=w.alloc (.cells #[.slice a (cm l).length cap] 144)) (p:=.pointer (some ⟨w.heap.size,0,none⟩)) (bs:=plain l) (fun W hg hb=>by
  have hz:=YB w (.cells #[.slice a (cm l).length cap] 144);refine vC hg (by omega) ?_ ((hs.kept (aj w _)).kept hb) (fun k hk=>by have:=eQ k hk;omega) hl ht;rw[hb.cell (p:=⟨w.heap.size,0,none⟩) (by show w.heap.size<_;omega)];exact aX _ _ _))
 have HB:=ae (aj w (.cells #[.slice a (cm l).length cap] 144));have hz:=YB w (.cells #[.slice a (cm l).length cap] 144);clear hs eQ ht;generalize plain l=bs at *;generalize (cm l).length=n at *;go_enter Tryz.func172,Tryz.ntmps172
 go_wp2_with fail;refine HGA.o.mono ?_;rintro e w1 ⟨⟨v1,rfl,dI⟩,aA⟩;have fK:=ae (dI.low (B:=w.heap.size) (by omega));have aN:=ae (HB.o.trans (aA.mono (by omega)));clear dI aA;go_wp2_with fail;go_ret
 exact⟨⟨_,rfl,fK.o⟩,aN.o⟩
theorem vD{w:World}{g p q:Nat}{v vl vu:Value}{l:List (List Nat)}(hg:Gs w g v [])(hp:p<g)(hq:q<g)(hcu:w.cell? ⟨q,0,none⟩=some vu)(fT:w.cell? ⟨p,0,none⟩=some vl)
  (hs:Sv w vl (cm l)) (eQ:∀ k,vl.ownBlock=some k->k<g) (hu:Sv w vu (cm (tuq l))) (US:∀ k,vu.ownBlock=some k->k<g) (hl:l.length<=256) (ht:Ts l) :
  Calls Tryz.prog 210 #[.func (.func 168) #[] #[.pointer (some ⟨g,0,none⟩)],.pointer (some ⟨q,0,none⟩),.pointer (some ⟨p,0,none⟩)] w (io w g (eV l)):=by
 have zb:=hg.lt;have HCU:=ae hcu;have mH:=ae fT;have HS:=ae hs;have HU:=ae hu;have pU:=ae eQ;have QC:=ae US;have HT:=ae ht;have Kw:(tuq l).length<=256:=by have:=jh l;omega
 have htxl:=NV (qq ht) Kw;have gV:=pq (ia hl) (by rw[cZ];exact hl);have yX:jaH (eV l=1::(uv (tuq l).length++(iw (tuq l)++dm (dR l)))):=rfl;have sO:=cC (n:=(tuq l).length) (by omega);have Cr:=ae (eb (hg.kept (aj w (.cells #[.int .u8 1] 5))) (gl w 1).sv (by simp));have cG:(w.alloc (.cells #[.int .u8 1] 5)).heap.size=w.heap.size+1:=YB _ _;obtain⟨a,cap,rfl,_,_⟩:=hs.form1;obtain⟨au,capu,rfl,_,_⟩:=hu.form1;rw[ei]at *;have HPU:=ae (cU (tuq l).length (by omega));clear hg fT hs eQ ht hu US;go_enter Tryz.func210,Tryz.ntmps210
 go_wp2_with fail;refine Cr.o.mono ?_;rintro e w1 ⟨rfl,⟨v1,ew⟩,aA,_⟩;have aN:=ae (((aj w (.cells #[.int .u8 1] 5)).mono (YV zb)).trans aA);have rg:=ae ew;have hcu1:=dH HCU.o aN.o hq;clear ew aA hcu;go_wp2_with fail;refine(HPU.o _).mono ?_;rintro e w2 ⟨⟨v2,rfl,ex⟩,ay⟩;have Qd:=ae (eb (rg.o.kept ay) ex.sv (by simp;omega));have aK:=ae (aN.o.trans (ay.mono (YV rg.o.lt)));clear ex ay hcu1;go_wp2_with fail;refine Qd.o.mono ?_;rintro e w3 ⟨rfl,⟨v3,hg3⟩,aO,_⟩;have bT:=ae (aK.o.trans aO);have hcu3:=dH HCU.o bT.o hq;have TY:=ae (rR hg3 (by simp;omega) (HU.o.keptB QC.o bT.o) QC.o Kw (qq HT.o));clear hg3 aO;go_wp2_with fail;refine TY.o.mono ?_;rintro e w4 ⟨rfl,⟨v4,gH⟩,bm⟩;have cA:=ae (bT.o.trans bm);have Ry:=ae gH;have hcu4:=dH HCU.o cA.o hq;have hcl4:=dH mH.o cA.o hp;have WJ:=ae (AW (HU.o.keptB QC.o cA.o) (HS.o.keptB pU.o cA.o) hl Kw (tH l) (fun s hs=>(qq HT.o s hs).2) (fun x hx=>oM.2 hx));clear gH bm hcu3;go_wp2_with fail;refine WJ.o.mono ?_;rintro e w5 ⟨⟨v5,rfl,eo⟩,bv⟩;have hG5:=Ry.o.kept bv;have KI:=ae hG5;have aJ:=ae (cA.o.trans (bv.mono (YV Ry.o.lt)));have HP5:=ae (qG (l:=dR l) eo.sv (by rw[cZ];exact hl) (ia hl));clear eo bv hcu4 hcl4 hG5;go_wp2_with fail;refine HP5.o.mono ?_;rintro e w6 ⟨⟨v6,rfl,xw⟩,dP⟩;have WW:=ae (eb (KI.o.kept dP) xw.sv (by simp;omega));have jA:=ae (aJ.o.trans (dP.mono (YV KI.o.lt)));clear xw dP;go_wp2_with fail;refine WW.o.mono ?_;rintro e w7 ⟨rfl,⟨v7,hg7⟩,jK,_⟩
 have HG7:jaH (Gs w7 g v7 (eV l)):=ae (by
  rw[yX.o];simpa [YR]using hg7)
 have pT:=ae (jA.o.trans jK);clear hg7 jK;go_wp2_with fail;go_end0
 exact⟨rfl,⟨_,HG7.o⟩,pT.o⟩
theorem ur{W:World}{p T:Nat}{c:Array Value}(h:W.heap[p]?=some (.cells c T (0,0)))(hc:0<c.size):W.cell? ⟨p,0,none⟩=some c[0]/\W.frozen? ⟨p,0,none⟩=false :=
 ⟨by rw[an h];simp[hc],by simp[World.frozen?,h]⟩
theorem Ej{w:World}{B e size n q i:Nat}{v x:Value}{xs:List Value}(h:w.ownsRow B e size v n xs)(hq:∀ k,v.ownBlock=some k->k≠q):(w.setCell ⟨q,i,none⟩ x).ownsRow B e size v n xs:=by
 obtain⟨h0,h | ⟨g,cap,cur,rfl,h2,h3,h4⟩⟩:=h
 ·exact⟨h0,Or.inl h⟩
 ·exact⟨h0,Or.inr ⟨g,cap,cur,rfl,h2,(Below.heap_setCell _ _ _ _ (hq g rfl)).trans h3,h4⟩⟩
theorem AX{w:World}{B e n q T:Nat}{v:Value}{xs:List Value}{c:Array Value}(h:w.ownsRow B e 1 v n xs)(hq:w.heap[q]?=some (.cells c T (0,0)))(hT:T≠e):∀ k,v.ownBlock=some k->k≠q:=by
 intro k hk e1;subst e1;obtain⟨h0,⟨rfl,_⟩ | ⟨g,cap,cur,rfl,h2,h3,h4⟩⟩:=h
 ·cases hk
 ·cases hk
  rw[hq]at h3;cases h3
  exact hT rfl
theorem yB{w:World}{vl:Value}{l:List (List Nat)}(hs:Sv w vl (cm l))(eQ:∀ k,vl.ownBlock=some k->k<w.heap.size)(hl:l.length<=256)(ht:Ts l) :
  Calls Tryz.prog 173 #[vl] w (dJ w (eV l)):=by
 obtain⟨a,cap,rfl,_,_⟩:=hs.form1;have HS:=ae hs;have pU:=ae eQ;have HT:=ae ht;rw[ei]at *;have sk:=ae (aj w (.cells #[.slice a l.length cap] 144));have hzx:=YB w (.cells #[.slice a l.length cap] 144);have HCX:=ae (aX w (.slice a l.length cap) 144);have mH:=ae (Ei (hs.kept sk.o) hl);clear hs eQ ht;go_enter Tryz.func173,Tryz.ntmps173
 go_wp2_with fail;refine mH.o.mono ?_;rintro e w1 ⟨⟨v1,rfl,dI⟩,aA⟩;have fK:=ae dI;have aN:=ae aA;have cG:=aA.size;obtain⟨a1,c1,rfl,_,_⟩:=aM dI;have BV:jaH ((w1.alloc (.cells #[.slice a1 l.length c1] 144)).heap[w1.heap.size]?=some (.cells #[.slice a1 l.length c1] 144 (0,0))):=ae (Zb _ _);have bh:=YB w1 (.cells #[.slice a1 l.length c1] 144);have hO2:=fK.o.kept (aj w1 (.cells #[.slice a1 l.length c1] 144));have ec:=ae hO2;have ay:=aN.o.trans ((aj w1 (.cells #[.slice a1 l.length c1] 144)).mono cG);have aK:=ae ay;have hlu:(upT l).length=l.length:=qM l
 have hS2:(w1.alloc (.cells #[.slice a1 l.length c1] 144)).ownsRow (w.alloc (.cells #[.slice a l.length cap] 144)).heap.size 9 1 (.slice a1 l.length c1) (upT l).length ((upT l).map encStr):=by
  rw[hlu,← AR];exact hO2
 have HSO:=ae (JJ hS2 (by omega) (by omega));clear dI aA hO2 ay hS2 hlu;go_wp2_with fail;refine HSO.o.mono ?_;rintro e w3 ⟨rfl,eR,aO,UT⟩;have hlu:(upT l).length=l.length:=qM l;have vQ:∀ k,(Value.slice a1 l.length c1).ownBlock=some k->k<w1.heap.size:=fun k hk=>(fK.o.lt k hk).2
 have KM:w3.heap[w1.heap.size]?=some (.cells #[.slice a1 l.length c1] 144 (0,0)):=(UT w1.heap.size (by omega) (fun e=>by have:=vQ _ e;omega)).trans BV.o;have HQ3:=ae KM;obtain⟨TZ,gC⟩:=ur KM (by simp);have jE:=aO.size;have bT:=ae (aK.o.trans aO);have hls:(nU (upT l)).length=l.length:=by rw[jW];exact hlu
 have ho3':w3.ownsRow (w.alloc (.cells #[.slice a l.length cap] 144)).heap.size 9 1 (.slice a1 l.length c1) (nU (upT l)).length ((nU (upT l)).map encStr):=by
  rw[jW];exact eR
 have HCO:=ae (yz ho3' (by omega) (by omega));rw[Eh (fun s hs=>(HT.o s hs).2),← AR,qM]at HCO;simp only[List.getElem_toArray,jar]at TZ;clear eR ho3' aO UT KM hls hlu;go_wp2_with fail;refine HCO.o.mono ?_;rintro e w4 ⟨⟨v4,rfl,fC⟩,bm,hk4⟩;have hq4:w4.heap[w1.heap.size]?=some (.cells #[.slice a1 l.length c1] 144 (0,0)):=(hk4 w1.heap.size (by omega) (fun e=>by have:=vQ _ e;omega)).trans HQ3.o;obtain⟨Yd,no⟩:=ur hq4 (by simp);simp only[List.getElem_toArray,jar]at Yd;have Kx:=bm.size;have cA:=ae (bT.o.trans bm);obtain⟨a4,c4,rfl,_,_⟩:=aM fC;have WY:=AX fC hq4 (by decide);have hO5:=Ej (i:=0) (x:=.slice a4 (tuq l).length c4) fC WY;have Ye:=ce hq4 0 (.slice a4 (tuq l).length c4);have aJ:=ae (cA.o.setCell (p:=⟨w1.heap.size,0,none⟩) (by show _<=w1.heap.size;omega) (.slice a4 (tuq l).length c4));have zi:(w4.setCell ⟨w1.heap.size,0,none⟩ (.slice a4 (tuq l).length c4)).heap.size=w4.heap.size:=World.size_setCell _ _ _
 have HGA:=ae (NR (w:=w4.setCell ⟨w1.heap.size,0,none⟩ (.slice a4 (tuq l).length c4)) (p:=.pointer (some ⟨w1.heap.size,0,none⟩)) (q:=.pointer (some ⟨w.heap.size,0,none⟩)) (bs:=eV l) (fun W hg hb=>by
  have gV:Below (w.alloc (.cells #[.slice a l.length cap] 144)).heap.size (w.alloc (.cells #[.slice a l.length cap] 144)) W:=aJ.o.trans (hb.mono (by omega));have lE:Below w.heap.size w W:=sk.o.trans (gV.mono (by omega));refine vD (vu:=.slice a4 (tuq l).length c4) hg (by omega) (by omega) ?_ ?_ (HS.o.kept lE) (fun k hk=>by have:=pU.o k hk;omega) ?_ (fun k hk=>?_) hl HT.o
  ·rw[hb.cell (p:=⟨w1.heap.size,0,none⟩) (by show w1.heap.size<_;omega),an Ye]
   rfl
  ·rw[gV.cell (p:=⟨w.heap.size,0,none⟩) (by show w.heap.size<_;omega)]
   exact HCX.o
  ·exact(Sv.of_own hO5).kept hb
  ·have:=(hO5.lt k hk).2
   omega))
 clear fC bm hk4 hq4 WY hO5 Ye;generalize eV l=bs at *;generalize tuq l=ul at *;go_wp2_with fail;refine HGA.o.mono ?_;rintro e w6 ⟨⟨v6,rfl,xw⟩,dP⟩;have oe:=ae (xw.low (B:=w.heap.size) (by omega));have jA:=ae (sk.o.trans ((aJ.o.trans (dP.mono (by omega))).mono (by omega)));clear xw dP;go_wp2_with fail;go_ret
 exact⟨⟨_,rfl,oe.o⟩,jA.o⟩
theorem vE{w:World}{vl:Value}{l:List (List Nat)}(hs:Sv w vl (cm l))(eQ:∀ k,vl.ownBlock=some k->k<w.heap.size)(hl:l.length<=256)(ht:Ts l) :
  Calls Tryz.prog 130 #[vl] w (dJ w (fE l)):=by
 have HE:=ae (yA hs eQ hl ht);have HP:=ae (fun(W:World) (hb:Below w.heap.size w W)=>yB (hs.kept hb) (fun k hk=>Za (eQ k hk) hb.size) hl ht);have HW:jaH (fE l=if (eV l).length<(plain l).length then eV l else plain l):=rfl;clear hs eQ ht;generalize fE l=wb at *;generalize eV l=bl at *;generalize plain l=bp at *;go_enter Tryz.func130,Tryz.ntmps130
 go_wp2_with fail;refine HE.o.mono ?_;rintro e w1 ⟨⟨v1,rfl,dI⟩,aA⟩;have fK:=ae dI;have aN:=ae aA;have cG:=aA.size;obtain⟨a1,c1,rfl⟩:=dI.len;clear dI aA;go_wp2_with fail;refine(HP.o _ aN.o).mono ?_;rintro e w2 ⟨⟨v2,rfl,ex⟩,ay⟩;have HO1':=ae (fK.o.kept ay);have ec:=ae (ex.low cG);have aK:=ae (aN.o.trans (ay.mono cG));obtain⟨a2,c2,rfl⟩:=ex.len;clear ex ay;by_cases h:bl.length<bp.length
 ·have h':(bl.length:Int)<(bp.length:Int):=by omega
  rw[Yy h]at HW;clear h;go_wp2_with fail;go_ret
  rw[HW.o];exact⟨⟨_,rfl,ec.o⟩,aK.o⟩
 ·have h':¬ (bl.length:Int)<(bp.length:Int):=by omega
  rw[Yx h]at HW;clear h;go_wp2_with fail;go_ret
  rw[HW.o];exact⟨⟨_,rfl,HO1'.o⟩,aK.o⟩
theorem vF{w:World}{B e n:Nat}{v:Value}{xs:List Value}(h:w.ownsRow B e 1 v n xs):∀ k,v.ownBlock=some k->k<w.heap.size:=fun k hk=>(h.lt k hk).2
theorem Ek{w:World}{g p q k:Nat}{v vl:Value}{l:List (Nat×Int×List Nat)}(hg:Gs w g v [])(hp:p<g)(hq:q<g)(fT:w.cell? ⟨p,0,none⟩=some vl)(ek:w.cell? ⟨q,0,none⟩=some (.int .u8 (k:Int)))
  (hs:Sv w vl (aC l)) (eQ:∀ k,vl.ownBlock=some k->k<g) (hc:Col k l) :
  Calls Tryz.prog 124 #[.func (.func 168) #[] #[.pointer (some ⟨g,0,none⟩)],.pointer (some ⟨p,0,none⟩),.pointer (some ⟨q,0,none⟩)] w (io w g (dS k l)):=by
 have zb:=hg.lt;have mH:=ae fT;have oo:=ae ek;have HS:=ae hs;have pU:=ae eQ;obtain⟨hk,hl,hcells⟩:=hc;have HC:=ae hcells;have hhd:=(wD (l:=l) hl).1;have XY:jaH (dS k l=iD l++iE k l):=rfl;have Cr:=ae (yx hg (by simp) hs hl);have hol:=ib l;obtain⟨a,cap,rfl,_,_⟩:=hs.form1;rw[ax]at *;clear hg hs eQ hcells ek;obtain rfl | rfl | rfl:k=1∨k=2∨k=3:=by omega
 ·have qd:=kz HC.o
  have gV:=pq qd.1 (by rw[YD];omega);have HI:=ae qd.1;have WZ:=ae (yb l);clear qd;go_enter Tryz.func124,Tryz.ntmps124
  go_wp2_with fail;refine Cr.o.mono ?_;rintro e w1 ⟨rfl,⟨v1,ew⟩,aA⟩;have rg:=ae ew;have aN:=ae aA;have QD:=dH mH.o aA hp;have QE:=dH oo.o aA hq;have zl:=ae (DS (HS.o.keptB pU.o aA) hl HC.o);clear ew aA fT;go_wp2_with fail;refine zl.o.mono ?_;rintro e w2 ⟨⟨v2,rfl,ex⟩,ay⟩;have Fk:=ae (rg.o.kept ay);have aK:=ae (aN.o.trans (ay.mono (YV rg.o.lt)));have mI:=ae (qG ex.sv (by rw[YD];omega) HI.o);clear ex ay QD QE;go_wp2_with fail;refine mI.o.mono ?_;rintro e w3 ⟨⟨v3,rfl,eR⟩,aO⟩;have bT:=ae (aK.o.trans (aO.mono (YV Fk.o.lt)));have TY:=ae (eb (Fk.o.kept aO) eR.sv (by simp only[ZD];omega));clear eR aO;go_wp2_with fail;refine TY.o.mono ?_;rintro e w4 ⟨rfl,⟨v4,gH⟩,bm,_⟩;rw[ZD,← WZ.o,← XY.o]at gH;have Ry:=ae gH;have cA:=ae (bT.o.trans bm);clear gH bm;go_wp2_with fail;go_end0
  exact⟨rfl,⟨_,Ry.o⟩,cA.o⟩
 ·have qd:=ic HC.o
  have gV:=rQ qd.1 (by rw[YD];omega);have HI:=ae qd.1;have WZ:=ae (yc l);clear qd;go_enter Tryz.func124,Tryz.ntmps124
  go_wp2_with fail;refine Cr.o.mono ?_;rintro e w1 ⟨rfl,⟨v1,ew⟩,aA⟩;have rg:=ae ew;have aN:=ae aA;have QD:=dH mH.o aA hp;have QE:=dH oo.o aA hq;have zl:=ae (DU (HS.o.keptB pU.o aA) hl HC.o);clear ew aA fT;go_wp2_with fail;refine zl.o.mono ?_;rintro e w2 ⟨⟨v2,rfl,ex⟩,ay⟩;have Fk:=ae (rg.o.kept ay);have aK:=ae (aN.o.trans (ay.mono (YV rg.o.lt)));have mI:=ae (xa ex.sv HI.o);clear ex ay QD QE;go_wp2_with fail;refine mI.o.mono ?_;rintro e w3 ⟨⟨v3,rfl,eR⟩,aO⟩;have bT:=ae (aK.o.trans (aO.mono (YV Fk.o.lt)));have TY:=ae (eb (Fk.o.kept aO) eR.sv (by simp only[ZD];omega));clear eR aO;go_wp2_with fail;refine TY.o.mono ?_;rintro e w4 ⟨rfl,⟨v4,gH⟩,bm,_⟩;rw[ZD,← WZ.o,← XY.o]at gH;have Ry:=ae gH;have cA:=ae (bT.o.trans bm);clear gH bm;go_wp2_with fail;go_end0
  exact⟨rfl,⟨_,Ry.o⟩,cA.o⟩
 ·have qd:=jj HC.o
  have gV:=(tI qd.1 (by rw[YD];omega)).1;have HI:=ae qd.1;have WZ:=ae (yd l);clear qd;go_enter Tryz.func124,Tryz.ntmps124
  go_wp2_with fail;refine Cr.o.mono ?_;rintro e w1 ⟨rfl,⟨v1,ew⟩,aA⟩;have rg:=ae ew;have aN:=ae aA;have QD:=dH mH.o aA hp;have QE:=dH oo.o aA hq;have zl:=ae (DT (HS.o.keptB pU.o aA) hl HC.o);clear ew aA fT;go_wp2_with fail;refine zl.o.mono ?_;rintro e w2 ⟨⟨v2,rfl,ex⟩,ay⟩;have Fk:=ae (rg.o.kept ay);have aK:=ae (aN.o.trans (ay.mono (YV rg.o.lt)));have mI:=ae (vE ex.sv (vF ex) (by rw[YD];omega) HI.o);clear ex ay QD QE;go_wp2_with fail;refine mI.o.mono ?_;rintro e w3 ⟨⟨v3,rfl,eR⟩,aO⟩;have bT:=ae (aK.o.trans (aO.mono (YV Fk.o.lt)));have TY:=ae (eb (Fk.o.kept aO) eR.sv (by simp only[ZD];omega));clear eR aO;go_wp2_with fail;refine TY.o.mono ?_;rintro e w4 ⟨rfl,⟨v4,gH⟩,bm,_⟩;rw[ZD,← WZ.o,← XY.o]at gH;have Ry:=ae gH;have cA:=ae (bT.o.trans bm);clear gH bm;go_wp2_with fail;go_end0
  exact⟨rfl,⟨_,Ry.o⟩,cA.o⟩
def xf(r:List Nat×Nat)(w:World)(e:Ending)(w':World):Prop:=(∃ v,e=.returned (.tuple #[v,.int .i64 (r.2:Int)])/\aG w' w.heap.size v r.1)/\Below w.heap.size w w'
theorem El{k:Nat}{l:List (Nat×Int×List Nat)}(h:(eW k l).2≠0):(eW k l).1=[]:=by
 unfold eW at h ⊢;split
 ·split
  ·next h1 h2 =>
   rw[Yy h1,Yy h2]at h;exact absurd rfl h
  ·rfl
 ·rfl
theorem AY{k:Nat}{l:List (Nat×Int×List Nat)}(hf:∀ c∈l,aI c)(h:(eW k l).2=0):Col k l:=by
 unfold eW at h;split at h
 ·next h1 =>
  split at h
  ·next h2=>exact⟨⟨h1.1,h1.2.1⟩,h2.1,fun c hc=>(hf c hc).cellk (h1.2.2 c hc)⟩
  ·simp at h
 ·simp at h
theorem xg{w:World}{vl:Value}{l:List (Nat×Int×List Nat)}(hs:Sv w vl (aC l))(eQ:∀ k,vl.ownBlock=some k->k<w.heap.size)(hf:∀ c∈l,aI c)(k:Nat) :
  Calls Tryz.prog 83 #[.int .u8 (k:Int),vl] w (xf (eW k l) w):=by
 obtain⟨a,cap,rfl,_,_⟩:=hs.form1;have cG:=YB w (.cells #[.int .u8 (k:Int)] 50);have bh:=YB (w.alloc (.cells #[.int .u8 (k:Int)] 50)) (.cells #[.slice a (aC l).length cap] 79);have aA:=aj w (.cells #[.int .u8 (k:Int)] 50);have ay:=aj (w.alloc (.cells #[.int .u8 (k:Int)] 50)) (.cells #[.slice a (aC l).length cap] 79);have sd:=aA.trans (ay.mono (by omega));have fW:=ae sd;have Lh:=ae (DW (hs.kept sd) hf k);have Rk:=ae (aX w (.int .u8 (k:Int)) 50);have Xa:=ae (aX (w.alloc (.cells #[.int .u8 (k:Int)] 50)) (.slice a (aC l).length cap) 79);have HC1':jaH (((w.alloc (.cells #[.int .u8 (k:Int)] 50)).alloc (.cells #[.slice a (aC l).length cap] 79)).cell? ⟨w.heap.size,0,none⟩=some (.int .u8 (k:Int))):=ae ((ay.cell (p:=⟨w.heap.size,0,none⟩) (by show w.heap.size<_;omega)).trans Rk.o);have qZ:=ae (El (k:=k) (l:=l));have QF:=ae (fun h=>AY (k:=k) (l:=l) hf h);have HWC:=ae (fun h=>nG (k:=k) (l:=l) h)
 have HGA:=ae (fun(W1:World) (hw:Below ((w.alloc (.cells #[.int .u8 (k:Int)] 50)).alloc (.cells #[.slice a (aC l).length cap] 79)).heap.size ((w.alloc (.cells #[.int .u8 (k:Int)] 50)).alloc (.cells #[.slice a (aC l).length cap] 79)) W1) (eZ:Col k l)=>NP (w:=W1) (p:=.pointer (some ⟨w.heap.size+1,0,none⟩)) (q:=.pointer (some ⟨w.heap.size,0,none⟩)) (bs:=dS k l) (fun W hg hb=>by
  have ll:=hw.size;have aO:Below w.heap.size w W:=sd.trans ((hw.trans (hb.mono ll)).mono (by omega));refine Ek (vl:=.slice a (aC l).length cap) hg (by omega) (by omega) ?_ ?_ (hs.kept aO) (fun k hk=>by have:=eQ k hk;omega) eZ
  ·rw[hb.cell (p:=⟨w.heap.size+1,0,none⟩) (by show w.heap.size+1<_;omega),hw.cell (p:=⟨w.heap.size+1,0,none⟩) (by show w.heap.size+1<_;omega)]
   have:=Xa.o;rwa[cG]at this
  ·rw[hb.cell (p:=⟨w.heap.size,0,none⟩) (by show w.heap.size<_;omega),hw.cell (p:=⟨w.heap.size,0,none⟩) (by show w.heap.size<_;omega)]
   exact HC1'.o))
 clear hs eQ hf aA ay sd;generalize eW k l=wc at *;obtain⟨bs,er⟩:=wc;simp only at *;generalize (aC l).length=n at *;by_cases he:er=0
 ·subst he
  have eZ:=QF.o rfl;have Cg:jaH (bs=dS k l):=ae (by have:=HWC.o eZ;simpa using this);have Fu:=ae eZ;clear eZ;go_enter Tryz.func83,Tryz.ntmps83
  go_wp2_with fail;refine Lh.o.mono ?_;rintro e w1 ⟨rfl,aA⟩;have HGA1:=ae (HGA.o w1 aA Fu.o);have aN:=ae (fW.o.trans (aA.mono (by omega)));have jE:=aA.size;clear aA;go_wp2_with fail;refine HGA1.o.mono ?_;rintro e w2 ⟨⟨v2,rfl,ex⟩,ay⟩;have ec:=ae (ex.low (B:=w.heap.size) (by omega));have aK:=ae (aN.o.trans (ay.mono (by omega)));clear ex ay;go_wp2_with fail;go_ret2
  rw[Cg.o];exact⟨⟨_,rfl,ec.o⟩,aK.o⟩
 ·have fb:((er:Int) != 0)=true:=by simpa using he
  have Cg:jaH (bs=[]):=ae (qZ.o he);clear he;go_enter Tryz.func83,Tryz.ntmps83
  go_wp2_with fail;refine Lh.o.mono ?_;rintro e w1 ⟨rfl,aA⟩;have aN:=ae (fW.o.trans (aA.mono (by omega)));clear aA;go_wp2_with fail;go_ret2
  rw[Cg.o];exact⟨⟨_,rfl,aG.nil _ _⟩,aN.o⟩
theorem Sv.keptW{W W':World}{B:Nat}{v:Value}{xs:List Value}(h:Sv W v xs)(hv:0<xs.length->∀ k,v.ownBlock=some k->k<B)(hb:Below B W W'):Sv W' v xs:=by
 obtain⟨a,cap,rfl,h1,h2,h3,h4⟩:=h;refine⟨a,cap,rfl,h1,h2,h3,fun h0=>?_⟩;obtain⟨b,off,rfl,h5,h6⟩:=h4 h0;have hb':b<B:=hv h0 b rfl;exact⟨b,off,rfl,Za h5 hb.size,fun j x hj=>(hb.cell (p:=⟨b,off+j,none⟩) hb').trans (h6 j x hj)⟩
def Rs(W:World)(p:Nat)(b:List Nat)(f:Nat):Prop :=
 ∃ a cap,W.heap[p]?=some (.cells #[.slice a b.length cap,.int .i64 (f:Int)] 271 (0,0))/\Sv W (.slice a b.length cap) (az .u8 b)/\(0<b.length->∀ k,(Value.slice a b.length cap).ownBlock=some k->k<p)/\Bs b
theorem Rs.bs{W:World}{p:Nat}{b:List Nat}{f:Nat}(h:Rs W p b f):Bs b:=by obtain⟨_,_,_,_,_,h⟩:=h;exact h
theorem Rs.lt{W:World}{p:Nat}{b:List Nat}{f:Nat}(h:Rs W p b f):p<W.heap.size:=by obtain⟨_,_,h,_⟩:=h;exact(Array.getElem?_eq_some_iff.1 h).1
theorem Rs.kept{W W':World}{p B:Nat}{b:List Nat}{f:Nat}(h:Rs W p b f)(hb:Below B W W')(hp:p<B):Rs W' p b f:=by
 obtain⟨a,cap,h1,h2,h3,h4⟩:=h;exact⟨a,cap,(hb.block p hp).trans h1,h2.keptW (fun h0 k hk=>Zm (h3 (by rwa[am]at h0) k hk) hp) hb,h3,h4⟩
theorem Sv.dropG{W:World}{a:Option Addr}{n cap:Nat}{xs:List Value}(h:Sv W (.slice a n cap) xs){k:Nat}(hk:k<=xs.length) :
  Sv W (.slice (if cap=k then a else a.map fun x=>x.add k) (xs.length-k) (cap-k)) (xs.drop k):=by
 obtain⟨a',cap',e,h1,h2,h3,h4⟩:=h;simp only[Value.slice.injEq]at e;obtain⟨rfl,rfl,rfl⟩:=e;refine⟨_,cap-k,by rw[Zf],by rw[Zf];omega,by omega,fun e=>?_,fun h0=>?_⟩
 ·by_cases hc:cap=k
  ·omega
  ·rw[Yx hc]at e
   have ha:a=none:=by cases a with | none=>rfl | some x=>simp at e
   have:=h3 ha;omega
 ·rw[Zf]at h0
  obtain⟨b,off,rfl,h5,h6⟩:=h4 (by omega);refine⟨b,off+k,?_,h5,fun j x hj=>?_⟩
  ·rw[Yx (by omega)]
   simp[kq]
  ·rw[List.getElem?_drop]at hj
   have:=h6 (k+j) x hj;rwa[← ZR]at this
theorem ip{a:Option Addr}{n cap m k c:Nat}{p:Nat}(h:∀ i,(Value.slice a n cap).ownBlock=some i->i<p):∀ i,(Value.slice (if c=k then a else a.map fun x=>x.add k) m (cap-k)).ownBlock=some i->i<p:=by
 intro i hi;cases a with
 | none =>
  split at hi<;>cases hi
 | some x =>
  refine h i ?_;split at hi
  ·exact hi
  ·simp only[ZU,Value.ownBlock]at hi ⊢
   unfold Addr.add at hi;split at hi<;>exact hi
theorem Rs.cells{W:World}{p:Nat}{b:List Nat}{f:Nat}(h:Rs W p b f) :
  ∃ a cap,W.cell? ⟨p,0,none⟩=some (.slice a b.length cap)/\W.cell? ⟨p,1,none⟩=some (.int .i64 (f:Int))/\W.frozen? ⟨p,0,none⟩=false/\W.frozen? ⟨p,1,none⟩=false /\
   b.length<=cap/\cap<=9223372036854775807/\Sv W (.slice a b.length cap) (az .u8 b)/\(0<b.length->∀ k,(Value.slice a b.length cap).ownBlock=some k->k<p) /\
   (∀ f':Nat,Rs (W.setCell ⟨p,1,none⟩ (.int .i64 (f':Int))) p b f') /\
   (∀ k,k<=b.length->∃ A,(if cap=k then a else a.map fun x=>x.add k)=A/\Rs (W.setCell ⟨p,0,none⟩ (.slice A (b.length-k) (cap-k))) p (b.drop k) f) /\
   Rs (W.setCell ⟨p,0,none⟩ (.slice none 0 0)) p [] f:=by
 have ar:=h.lt;obtain⟨a,cap,h1,h2,h3,h4⟩:=h;have kK:∀ i (x:Value),Below p W (W.setCell ⟨p,i,none⟩ x):=fun i x=>(Yz p W).setCell (YA _) x
 have bw:=h2.form1;obtain⟨a',cap',e,jy,jH⟩:=bw;rw[am]at e jy;simp only[Value.slice.injEq]at e;obtain⟨rfl,_,rfl⟩:=e;refine⟨a,cap,by rw[an h1];rfl,by rw[an h1];rfl,by simp[World.frozen?,h1],by simp[World.frozen?,h1],jy,by unfold maxLen at jH;omega,h2,h3,fun f'=>?_,fun k hk=>?_,?_⟩
 ·exact⟨a,cap,by rw[ce h1];rfl,h2.keptW (fun h0=>h3 (by rwa[am]at h0)) (kK 1 _),h3,h4⟩
 ·refine⟨_,rfl,?_⟩
  have hd:=h2.dropG (k:=k) (by rw[am];exact hk);rw[am]at hd;have hv:(az .u8 b).drop k=az .u8 (b.drop k):=by simp[az,List.map_drop]
  rw[hv]at hd;have gV:0<b.length->∀ i,(Value.slice (if cap=k then a else a.map fun x=>x.add k) (b.length-k) (cap-k)).ownBlock=some i->i<p:=fun h0=>ip (m:=b.length-k) (k:=k) (c:=cap) (h3 h0)
  refine⟨_,cap-k,by rw[ce h1,Zf];rfl,?_,?_,h4.drop k⟩
  ·rw[Zf]
   exact hd.keptW (fun h0=>gV (by rw[am,Zf]at h0;omega)) (kK 0 _)
  ·rw[Zf]
   exact fun h0=>gV (by omega)
 ·refine⟨none,0,by rw[ce h1];rfl,Sv.nil _,fun h0=>by simp at h0,fun x hx=>by simp at hx⟩
theorem bS{w:World}{p f:Nat}{b:List Nat}(h:Rs w p b f)(e:Nat) :
  Calls Tryz.prog 237 #[.pointer (some ⟨p,0,none⟩),.int .i64 (e:Int)] w fun r w'=>r=.returned (.tuple #[])/\Rs w' p b (orf f e)/\Fr p w.heap.size w w':=by
 have HS:=ae h;obtain⟨a,cap,h0,h1,h2,h3,h4,h5,h6,h7,h8,h9,sO⟩:=h.cells;have H8:=ae (h8 e);have HF:=ae ((Fr.refl p w.heap.size w).set 1 (.int .i64 (e:Int)));clear h h6 h7 h8 h9 sO;by_cases hf:((f:Int)==0)=true
 ·have hf':f=0:=by simpa using hf
  have HO:jaH (orf f e=e):=by show _=_;unfold orf;rw[Yy hf']
  clear hf';go_enter Tryz.func237,Tryz.ntmps237
  go_wp2_with fail;go_end0
  rw[HO.o];exact⟨rfl,H8.o,HF.o⟩
 ·have hff:((f:Int)==0)=false:=by simpa using hf
  have HO:jaH (orf f e=f):=by show _=_;unfold orf;rw[Yx (fun e=>hf (by simp[e]))]
  clear hf;go_enter Tryz.func237,Tryz.ntmps237
  go_wp2_with fail;go_end0
  rw[HO.o];exact⟨rfl,HS.o,Fr.refl _ _ _⟩
theorem ut{w:World}{p f:Nat}{b:List Nat}(h:Rs w p b f) :
  Calls Tryz.prog 280 #[.pointer (some ⟨p,0,none⟩)] w fun r w'=>r=.returned (.tuple #[])/\Rs w' p b (orf f (if b.length=0 then 0 else 32))/\Fr p w.heap.size w w':=by
 have HS:=ae h;obtain⟨a,cap,h0,h1,h2,h3,h4,h5,h6,h7,h8,h9,sO⟩:=h.cells;have HR:=ae (bS h 32);clear h h6 h7 h8 h9 sO;by_cases hp:(b.length:Int) > 0
 ·rw[Yx (by omega)]
  go_enter Tryz.func280,Tryz.ntmps280
  go_wp2_with fail;refine HR.o.mono ?_;rintro e w1 ⟨rfl,da,cB⟩;have gI:=ae da;clear da;go_wp2_with fail;go_end0
  exact⟨rfl,gI.o,cB⟩
 ·have cO:b.length=0:=by omega
  rw[Yy cO];have HO:jaH (orf f 0=f):=by show _=_;unfold orf;split<;>simp_all
  clear cO;go_enter Tryz.func280,Tryz.ntmps280
  go_wp2_with fail;go_end0
  rw[HO.o];exact⟨rfl,HS.o,Fr.refl _ _ _⟩
def tkB(c:Nat)(b:List Nat):List Nat:=if b.length<c then [] else b.take c
def tkR(c:Nat)(b:List Nat):List Nat:=if b.length<c then b else b.drop c
def tkF(c:Nat)(b:List Nat)(f:Nat):Nat:=if b.length<c then orf f 30 else f
theorem mC{w:World}{p f:Nat}{b:List Nat}(h:Rs w p b f)(c:Nat)(hc:c<18446744073709551616) :
  Calls Tryz.prog 293 #[.pointer (some ⟨p,0,none⟩),.int .u64 (c:Int)] w fun r w'=>(∃ v,r=.returned v/\Sv w' v (az .u8 (tkB c b)))/\Rs w' p (tkR c b) (tkF c b f)/\Fr p w.heap.size w w':=by
 have HS:=ae h;obtain⟨a,cap,h0,h1,h2,h3,h4,h5,h6,h7,h8,h9,sO⟩:=h.cells;have HR:=ae (bS h 30);by_cases hp:b.length<c
 ·have hp':(c:Int) > (b.length:Int):=by omega
  have HB:jaH (tkB c b=[]/\tkR c b=b/\tkF c b f=orf f 30):=⟨Yy hp,Yy hp,Yy hp⟩;clear h h6 h7 h8 h9 sO hp;go_enter Tryz.func293,Tryz.ntmps293
  go_wp2_with fail;refine HR.o.mono ?_;rintro e w1 ⟨rfl,da,cB⟩;have gI:=ae da;have eB:=ae cB;clear da cB;go_wp2_with fail;go_ret
  rw[HB.o.1,HB.o.2.1,HB.o.2.2];exact⟨⟨_,rfl,Sv.nil _⟩,gI.o,eB.o⟩
 ·have hp':¬ (c:Int) > (b.length:Int):=by omega
  have HB:jaH (tkB c b=b.take c/\tkR c b=b.drop c/\tkF c b f=f):=⟨Yx hp,Yx hp,Yx hp⟩;obtain⟨A,hA,hSA⟩:=h9 c (by omega);have kj:=ae hSA;have HF:=ae ((Fr.refl p w.heap.size w).set 0 (.slice A (b.length-c) (cap-c)))
  have hT:Sv w (.slice a c cap) (az .u8 (b.take c)):=by
   have:=h6.take (k:=c) (by rw[am];omega);rwa[← wQ]at this
  have hTb:0<(az .u8 (b.take c)).length->∀ k,(Value.slice a c cap).ownBlock=some k->k<p:=fun h0 k hk=>h7 (by rw[am,YH]at h0;omega) k (by cases a with | none=>cases hk | some x=>exact hk)
  have HT:=ae (hT.keptW hTb ((Yz p w).setCell (p:=⟨p,0,none⟩) (YA _) (.slice A (b.length-c) (cap-c))));clear h h6 h7 h8 h9 sO hp hSA hT hTb;go_enter Tryz.func293,Tryz.ntmps293
  go_wp2_with fail;go_ret
  rw[HB.o.1,HB.o.2.1,HB.o.2.2];exact⟨⟨_,rfl,HT.o⟩,kj.o,HF.o⟩
theorem rS{w:World}{p f:Nat}{b:List Nat}(h:Rs w p b f) :
  Calls Tryz.prog 311 #[.pointer (some ⟨p,0,none⟩)] w fun r w'=>r=.returned (.int .u64 ((gt b).1:Int))/\Rs w' p (b.drop (gt b).2.1) (orf f (gt b).2.2)/\Fr p w.heap.size w w':=by
 have HS:=ae h;have HB:=ae h.bs;obtain⟨a,cap,h0,h1,h2,h3,h4,h5,h6,h7,h8,h9,sO⟩:=h.cells;obtain⟨g1,g2,g3,g4⟩:=eI b;have HG:=ae (xQ HB.o h6);clear h h6 h7 h8 h9 sO g4;generalize gt b=x at *;obtain⟨n,u,c⟩:=x;simp only at *;unfold jG at HG;go_enter Tryz.func311,Tryz.ntmps311
 go_wp2_with fail;refine HG.o.mono ?_;rintro e w1 ⟨rfl,rfl⟩;go_wp2_with fail;refine(bS HS.o c).mono ?_;rintro e w2 ⟨rfl,cP,cK⟩;obtain⟨A0,Cap,k0,k1,k2,k3,k4,k5,k6,k7,k8,k9,k10⟩:=cP.cells;obtain⟨A,hA,hSA⟩:=k9 u g2;have kj:=ae hSA;have eT:=ae (cK.set 0 (.slice A (b.length-u) (Cap-u)));clear cP cK k6 k7 k8 k9 k10 hSA h0 h1 h2 h3;go_wp2_with fail;go_ret
 exact⟨rfl,kj.o,eT.o⟩
def chX:List Nat->Nat
 | []=>0
 | x::_=>if x<=1 then x else 0
def chF(b:List Nat)(f:Nat):Nat :=
 match b with
 | []=>orf f 30
 | x::_=>if x<=1 then f else orf f 40
theorem lU(x:Nat)(t:List Nat)(f:Nat):tkB 1 (x::t)=[x]/\tkR 1 (x::t)=t/\tkF 1 (x::t) f=f:=by
 refine⟨?_,?_,?_⟩
 ·unfold tkB;rw[Yx (by simp)];rfl
 ·unfold tkR;rw[Yx (by simp)];rfl
 ·unfold tkF;rw[Yx (by simp)]
theorem uw{w:World}{p f:Nat}{b:List Nat}(h:Rs w p b f) :
  Calls Tryz.prog 275 #[.pointer (some ⟨p,0,none⟩),.int .u8 0,.int .u8 1] w fun r w'=>r=.returned (.int .u8 (chX b:Int))/\Rs w' p b.tail (chF b f)/\Fr p w.heap.size w w':=by
 have HT:=ae (mC h 1 (by omega));have Cg:=ae h.bs;have ar:=h.lt;clear h;cases b with
 | nil =>
  have HE:jaH (tkB 1 []=[]/\tkR 1 []=[]/\tkF 1 [] f=orf f 30):=⟨rfl,rfl,rfl⟩;rw[HE.o.1,HE.o.2.1,HE.o.2.2]at HT;go_enter Tryz.func275,Tryz.ntmps275
  go_wp2_with fail;refine HT.o.mono ?_;rintro e w1 ⟨⟨v1,rfl,zm⟩,da,cB⟩;have gI:=ae da;have eB:=ae cB;obtain⟨a,cap,rfl,_,_⟩:=zm.form1;rw[am]at *;clear da cB zm;go_wp2_with fail;go_ret
  exact⟨rfl,gI.o,eB.o⟩
 | cons x t =>
  rw[(lU x t f).1,(lU x t f).2.1,(lU x t f).2.2]at HT;have hx:=Cg.o x (by simp);go_enter Tryz.func275,Tryz.ntmps275
  go_wp2_with fail;refine HT.o.mono ?_;rintro e w1 ⟨⟨v1,rfl,zm⟩,da,cB⟩;have gI:=ae da;have eB:=ae cB;obtain⟨a,cap,rfl,_,bw⟩:=zm.form1;have hcm':cap<=9223372036854775807:=by unfold maxLen at bw;omega
  obtain⟨g,off,rfl,hg,bn⟩:=zm.at1 (k:=0) (x:=.int .u8 (x:Int)) rfl;rw[ZL]at bn;rw[am]at *;clear zm bw;by_cases Cz:x<=1
  ·have HE:jaH (chX (x::t)=x/\chF (x::t) f=f):=⟨Yy Cz,Yy Cz⟩
   obtain rfl | rfl:x=0∨x=1:=by omega
   ·clear da cB
    go_wp2_with fail;go_ret
    rw[HE.o.1,HE.o.2];exact⟨rfl,gI.o,eB.o⟩
   ·clear da cB
    go_wp2_with fail;go_ret
    rw[HE.o.1,HE.o.2];exact⟨rfl,gI.o,eB.o⟩
  ·have HE:jaH (chX (x::t)=0/\chF (x::t) f=orf f 40):=⟨Yx Cz,Yx Cz⟩
   have mP:((x:Int) != 0)=true:=by
    have:(x:Int)≠0:=by omega
    simpa using this
   have Qp:((x:Int) != 1)=true:=by
    have:(x:Int)≠1:=by omega
    simpa using this
   have HR:=ae (bS da 40);clear da cB Cz;go_wp2_with fail;refine HR.o.mono ?_;rintro e w2 ⟨rfl,cP,cK⟩;have eP:=ae cP;have eT:=ae (eB.o.trans (cK.mono eB.o.size));clear cP cK;go_wp2_with fail;go_ret
   rw[HE.o.1,HE.o.2];exact⟨rfl,eP.o,eT.o⟩
theorem qN{c:Nat}{b:List Nat}(h:Bs b):Bs (tkB c b):=by
 unfold tkB;split
 ·exact fun x hx=>by simp at hx
 ·exact h.take c
theorem rT{w:World}{p f:Nat}{b:List Nat}(h:Rs w p b f)(n:Nat)(hn:n<=256) :
  Calls Tryz.prog 276 #[.pointer (some ⟨p,0,none⟩),.int .i64 (n:Int)] w fun r w'=>(∃ v,r=.returned v/\em w' w.heap.size v (unR (tkB (by8 n) b) n 1))/\Rs w' p (tkR (by8 n) b) (orf (tkF (by8 n) b f) (unE (tkB (by8 n) b) n 1))/\Fr p w.heap.size w w':=by
 have HB:=ae h.bs;have ar:=h.lt;have hby2:((n:Int)+8-1) / 8=((by8 n:Nat):Int):=by unfold by8;omega
 have gV:by8 n<=2048:=by unfold by8;omega
 have HT:=ae (mC h (by8 n) (by omega));have KD:=ae (qN (c:=by8 n) h.bs);clear h;generalize by8 n=L at *;generalize tkB L b=tb at *;generalize tkR L b=tr at *;generalize tkF L b f=tf at *;go_enter Tryz.func276,Tryz.ntmps276
 go_wp2_with fail;refine HT.o.mono ?_;rintro e w1 ⟨⟨v1,rfl,zm⟩,da,cB⟩;have gI:=ae da;have eB:=ae cB;have cG:=cB.size;have HU:=ae (rB zm.sx KD.o (n:Int) 1);clear da cB zm;go_wp2_with fail;refine HU.o.mono ?_;rintro e w2 ⟨v2,rfl,ex,ay⟩;have ec:=ae (bE ex cG);have bh:=ay.size;have eP:=ae (gI.o.kept ay gI.o.lt);have eT:=ae (eB.o.trans (Fr.of_below (ay.mono cG)));clear ex ay;go_wp2_with fail;refine(bS eP.o _).mono ?_;rintro e w3 ⟨rfl,jX,gC⟩;have lC:=ae jX;have dx:jaH (em w3 w.heap.size v2 (unR tb n 1)):=ae (gC.own ec.o ar);have og:=ae (eT.o.trans (gC.mono (by omega)));clear jX gC;go_wp2_with fail;go_ret
 exact⟨⟨_,rfl,dx.o⟩,lC.o,og.o⟩
theorem ly{w:World}{p f:Nat}{b:List Nat}(h:Rs w p b f)(n:Nat) :
  Calls Tryz.prog 278 #[.pointer (some ⟨p,0,none⟩),.int .i64 (n:Int)] w fun r w'=>(∃ v,r=.returned v/\bU w' w.heap.size v (aS b n).1)/\Rs w' p [] (orf f (aS b n).2)/\Fr p w.heap.size w w':=by
 have HS:=ae h;have ar:=h.lt;obtain⟨a,cap,h0,h1,h2,h3,h4,h5,h6,h7,h8,h9,sO⟩:=h.cells;have HR:=ae (AM h6 h.bs (n:Int));clear h h6 h7 h8 h9 sO;unfold ju at HR;generalize aS b n=rd at *;obtain⟨l,er⟩:=rd;simp only at *;go_enter Tryz.func278,Tryz.ntmps278
 go_wp2_with fail;refine HR.o.mono ?_;rintro e w1 ⟨⟨v1,rfl,dI⟩,aA⟩;have fK:=ae dI;have gI:=ae (HS.o.kept aA ar);have eB:=ae (Fr.of_below (p:=p) aA);have cG:=aA.size;clear dI aA h0 h1 h2 h3;go_wp2_with fail;refine(bS gI.o _).mono ?_;rintro e w2 ⟨rfl,cP,cK⟩;have ec:=ae (fK.o.fr cK ar);have eT:=ae (eB.o.trans (cK.mono cG));have bh:=cK.size;obtain⟨A0,Cap,k0,k1,k2,k3,k4,k5,k6,k7,k8,k9,k10⟩:=cP.cells;have lC:=ae k10;have og:=ae (eT.o.set 0 (.slice none 0 0));have dx:=ae (ec.o.fr ((Fr.refl p w2.heap.size w2).set 0 (.slice none 0 0)) ar);clear cP cK k6 k7 k8 k9 k10;go_wp2_with fail;go_ret
 exact⟨⟨_,rfl,dx.o⟩,lC.o,og.o⟩
theorem nV{w:World}{p f:Nat}{b:List Nat}(h:Rs w p b f)(n:Nat) :
  Calls Tryz.prog 312 #[.pointer (some ⟨p,0,none⟩),.int .i64 (n:Int)] w fun r w'=>(∃ v,r=.returned v/\bU w' w.heap.size v (aS (tkB (gt b).1 (b.drop (gt b).2.1)) n).1) /\
   Rs w' p (tkR (gt b).1 (b.drop (gt b).2.1)) (orf (tkF (gt b).1 (b.drop (gt b).2.1) (orf f (gt b).2.2)) (aS (tkB (gt b).1 (b.drop (gt b).2.1)) n).2)/\Fr p w.heap.size w w':=by
 have ar:=h.lt;have HN:=ae (rS h);have g1:=(eI b).1;have Cx:=ae (qN (c:=(gt b).1) (h.bs.drop (gt b).2.1));clear h;generalize (gt b).1=sz at *;generalize b.drop (gt b).2.1=b1 at *;generalize orf f (gt b).2.2=f1 at *;have qc:=ae (fun(W:World) (hs:Rs W p b1 f1)=>mC hs sz g1);generalize tkB sz b1=tb at *;generalize tkR sz b1=tr at *;generalize tkF sz b1 f1=tf at *;have Yf:=ae (fun(W:World) (v:Value) (hv:Sv W v (az .u8 tb))=>AM hv Cx.o (n:Int));unfold ju at Yf;generalize aS tb n=rd at *;obtain⟨l,er⟩:=rd;simp only at *;go_enter Tryz.func312,Tryz.ntmps312
 go_wp2_with fail;refine HN.o.mono ?_;rintro e w1 ⟨rfl,da,cB⟩;have HT:=ae (qc.o _ da);have eB:=ae cB;have cG:=cB.size;clear da cB;go_wp2_with fail;refine HT.o.mono ?_;rintro e w2 ⟨⟨v2,rfl,WR⟩,cP,cK⟩;have eP:=ae cP;have eT:=ae (eB.o.trans (cK.mono cG));have bh:=cK.size;have HR:=ae (Yf.o _ _ WR);clear cP cK WR;go_wp2_with fail;refine HR.o.mono ?_;rintro e w3 ⟨⟨v3,rfl,eR⟩,aO⟩;have dx:=ae (bE eR (YG cG bh));have lC:=ae (eP.o.kept aO eP.o.lt);have og:=ae (eT.o.trans (Fr.of_below (aO.mono (YG cG bh))));have jE:=aO.size;clear eR aO;go_wp2_with fail;refine(bS lC.o _).mono ?_;rintro e w4 ⟨rfl,uN,no⟩;have fU:jaH (bU w4 w.heap.size v3 l):=ae (no.own dx.o ar);have vP:=ae uN;have zj:=ae (og.o.trans (no.mono (by omega)));clear uN no;go_wp2_with fail;go_ret
 exact⟨⟨_,rfl,fU.o⟩,vP.o,zj.o⟩
end Go.Proofs.YtpljdjmpamjkhaaGreatDoor
