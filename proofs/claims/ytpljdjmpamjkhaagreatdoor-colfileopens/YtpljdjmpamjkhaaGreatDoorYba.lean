import Derived.Test.YtpljdjmpamjkhaaGreatDoorYaz
set_option linter.unusedVariables false
set_option linter.unusedSimpArgs false
set_option maxRecDepth 100000
set_option maxHeartbeats 4000000
namespace Go.Proofs.YtpljdjmpamjkhaaGreatDoor
open Go.RowKit Go.Lib Go.Shelf
theorem Qk:∀{a b:List UInt8},a<b↔a.map UInt8.toNat<b.map UInt8.toNat
 | [],[]=>by simp
 | [],y::t=>by simp
 | x::s,[]=>by simp
 | x::s,y::t=>by
  have ih:=Qk (a:=s) (b:=t);have h3:(x::s<y::t)↔(x<y∨x=y/\s<t):=List.cons_lt_cons_iff;have h4:(x.toNat::s.map UInt8.toNat<y.toNat::t.map UInt8.toNat)↔(x.toNat<y.toNat∨x.toNat=y.toNat/\s.map UInt8.toNat<t.map UInt8.toNat):=List.cons_lt_cons_iff;have h5:x=y↔x.toNat=y.toNat:=⟨fun e=>by rw[e],fun e=>UInt8.toNat_inj.1 e⟩;rw[jal,jal,h3,h4,ih,UInt8.lt_iff_toNat_lt,h5]
theorem Ql{x y:List UInt8}(h1:x≠y)(h2:¬ y<x):x<y:=by
 rcases List.le_iff_lt_or_eq.1 (show x<=y from h2)with h | h
 ·exact h
 ·exact absurd h h1
def pQ(l:List (List UInt8)):List (List UInt8):=l.mergeSort fun x y=>decide (x<=y)
theorem kT(l:List (List UInt8)):(pQ l).length=l.length:=List.length_mergeSort l
theorem mx{l:List (List UInt8)}:∀ m,m<=l.length->∀ z,z∈compactUpTo l.toArray m↔z∈l.take m
 | 0,_,z=>by simp[compactUpTo]
 | m+1,hm,z=>by
  have ih:=mx (l:=l) m (by omega);have hg:l.toArray[m]! = l[m]:=by simp[show m<l.length by omega]
  rw[compactUpTo_succ,jaj,ih z,Z5 (by omega),jaj,hg];by_cases hk:keeps l.toArray m=true
  ·rw[if_pos hk]
  ·rw[if_neg hk]
   constructor
   ·rintro(h | h)
    ·exact Or.inl h
    ·simp at h
   ·rintro(h | h)
    ·exact Or.inl h
    ·left
     have h':z=l[m]:=by simpa using h
     unfold keeps at hk;simp only[decide_eq_true_eq]at hk;have eQ:l.toArray[m-1]! = l[m-1]:=by simp[show m-1<l.length by omega]
     rw[hg,eQ]at hk;have Zg:m≠0:=fun e=>hk (Or.inl e)
     have he:l[m]=l[m-1]:=Decidable.byContradiction fun e=>hk (Or.inr e)
     rw[h',he];exact jby.2 ⟨m-1,by omega,rfl⟩
theorem mN{l:List (List UInt8)}(hs:l.Pairwise (·<=·)):∀ m,m<=l.length->(compactUpTo l.toArray m).Pairwise (· < ·)
 | 0,_=>by simp[compactUpTo]
 | m+1,hm=>by
  have ih:=mN hs m (by omega);have hg:l.toArray[m]! = l[m]:=by simp[show m<l.length by omega]
  rw[compactUpTo_succ,hg];by_cases hk:keeps l.toArray m=true
  ·rw[if_pos hk]
   refine List.pairwise_append.2 ⟨ih,by simp,fun a ha b hb=>?_⟩;have hb':b=l[m]:=by simpa using hb
   subst hb';have h1:=(mx m (by omega) a).1 ha;obtain⟨j,hj,rfl⟩:=jby.1 h1;have hjm:j<m:=by omega
   unfold keeps at hk;simp only[decide_eq_true_eq]at hk;have eQ:l.toArray[m-1]! = l[m-1]:=by simp[show m-1<l.length by omega]
   rw[hg,eQ]at hk
   have h2:l[m]≠l[m-1]:=by
    rcases hk with h | h
    ·omega
    ·exact h
   have h3:l[m-1]<=l[m]:=jbh.1 hs (m-1) m (by omega) (by omega) (by omega)
   have h4:l[j]<=l[m-1]:=by
    rcases jae j (m-1)with h | h
    ·exact jbh.1 hs j (m-1) (by omega) (by omega) h
    ·have:j=m-1:=by omega
     subst this;exact List.le_refl _
   have h5:l[m-1]<l[m]:=Ql (fun e=>h2 e.symm) h3;exact List.lt_of_le_of_lt h4 h5
  ·rw[if_neg hk,Z7]
   exact ih
theorem AL(l:List (List UInt8)):(Lib.compact (pQ l)).map (fun s=>s.map UInt8.toNat)=tuq (l.map fun s=>s.map UInt8.toNat):=by
 have hs:(pQ l).Pairwise (·<=·):=by
  have:=List.pairwise_mergeSort (le:=fun x y:List UInt8=>decide (x<=y)) (fun a b c h1 h2=>by simp only[decide_eq_true_eq]at *;exact List.le_trans h1 h2) (fun a b=>by simp only[Bool.or_eq_true,decide_eq_true_eq];exact List.le_total a b) l;exact this.imp (fun h=>by simpa using h)
 refine ta ?_ (vE _) (fun z=>?_)
 ·exact List.pairwise_map.2 ((mN hs _ (ZR _)).imp fun h=>Qk.1 h)
 ·rw[ja]
  have hm:=fun y=>mx (l:=pQ l) (pQ l).length (ZR _) y
  rw[ZY]at hm;unfold Lib.compact;simp only[jaa,hm];constructor
  ·rintro⟨y,hy,rfl⟩
   exact⟨y,List.mem_mergeSort.1 hy,rfl⟩
  ·rintro⟨y,hy,rfl⟩
   exact⟨y,List.mem_mergeSort.2 hy,rfl⟩
def upT(l:List (List Nat)):List (List UInt8):=l.map fun s=>s.map Nat.toUInt8
def dnT(l:List (List UInt8)):List (List Nat):=l.map fun s=>s.map UInt8.toNat
theorem Dw(l:List (List Nat)):cy l=(upT l).map encStr:=by
 unfold cy upT;rw[jao];rfl
theorem up_dn(u:List (List UInt8)):upT (dnT u)=u:=by
 unfold upT dnT;rw[jao];conv=>rhs;rw[← jaN u]
 apply jaI
 intro s _;simp only[Function.comp,jao,id];conv=>rhs;rw[← jaN s]
 apply jaI
 intro x _;simp
theorem dn_up{l:List (List Nat)}(h:∀ s∈l,Bs s):dnT (upT l)=l:=by
 unfold upT dnT;rw[jao];conv=>rhs;rw[← jaN l]
 apply jaI
 intro s hs;exact ff (h s hs)
theorem sI(l:List (List Nat)):(upT l).length=l.length:=ZU _
theorem Gl{l:List (List Nat)}(h:∀ s∈l,Bs s):Lib.compact (pQ (upT l))=upT (tuq l):=by
 have h1:=AL (upT l);have h2:(upT l).map (fun s=>s.map UInt8.toNat)=l:=dn_up h;rw[h2]at h1;rw[← h1];exact(up_dn _).symm
theorem Sv.texts{W:World}{b off n cap:Nat}{l:List (List Nat)}(h:Sv W (.slice (some ⟨b,off,none⟩) n cap) (cy l)):∀ j,j<(l.map am).length->W.cell? ⟨b,off+j,none⟩=some (.string ((l.map am).getD j ByteArray.empty)):=by
 intro j hj;rw[ZU]at hj;obtain⟨b',off',h1,_,h2⟩:=h.at1 (cJ hj);cases h1
 rw[h2,ek];simp[List.getD_eq_getElem?_getD,hj]
theorem Gm{w:World}{v:Value}{l:List (List Nat)}(hs:Sv w v (cy l))(hl:l.length<=256) :
  Calls Tryz.prog 207 #[v] w fun e w'=>(∃ v',e=.returned v'/\eD w' w.heap.size v' l)/\Below w.heap.size w w':=by
 have yb:=hs;obtain⟨a,cap,rfl,h1,h2,h3,h4⟩:=hs;rw[dE]at *;cases a with
 | none =>
  have hc:=h3 rfl;have pZ:l=[]:=jab (by omega);subst pZ;refine Calls.mono (AnyG.slices_Clone_string_nil lj _ _ w) ?_;rintro e w' ⟨rfl,rfl⟩;exact⟨⟨_,rfl,eD.nil _ _⟩,ZQ _ _⟩
 | some a =>
  rcases jax l.length with h0 | h0
  ·have pZ:l=[]:=jab h0
   subst pZ;refine Calls.mono (AnyG.slices_Clone_string_zero lj a cap w) ?_;rintro e w' ⟨v',rfl,ho,_,hb⟩;exact⟨⟨_,rfl,ho⟩,hb⟩
  ·obtain⟨b,off,h5,h6,h7⟩:=h4 h0
   cases h5
   refine Calls.mono (AnyG.slices_Clone_string lj b off l.length cap (l.map am) w (by rw[ZU];omega) (by omega) yb.texts) ?_;rintro e w' ⟨v',rfl,ho,_,hb⟩;rw[jat (by rw[ZU];omega),jao]at ho;exact⟨⟨_,rfl,ho⟩,hb⟩
theorem qT{α : Type}[Inhabited α]{enc:α->Value}{w:World}{g q k:Nat}{d:Array α}(h:k≠g):(Sort.putRow enc (Sort.ahead w q) g 0 d).heap[k]?=w.heap[k]?:=by
 simp[Sort.putRow,Sort.mapBlock,Sort.ahead,Array.getElem?_modify,Ne.symm h]
theorem Lt{w:World}{B:Nat}{v:Value}{zs:List (List UInt8)}(h:w.ownsRow B 9 1 v zs.length (zs.map encStr))(hl:zs.length<=256)(hB:B<=w.heap.size) :
  Calls Tryz.prog 208 #[v] w fun e w'=>e=.returned (.tuple #[])/\w'.ownsRow B 9 1 v zs.length ((pQ zs).map encStr)/\Below B w w'/\∀ k,k<w.heap.size->v.ownBlock≠some k->w'.heap[k]?=w.heap[k]?:=by
 by_cases hv:v=.slice none 0 0
 ·subst hv
  have pZ:zs=[]:=by
   rcases h.2 with ⟨_,h2⟩ | ⟨g,cap,cur,h2,_⟩
   ·exact jab h2
   ·cases h2
  subst pZ;refine Calls.mono (AnyM.slices_Sort_string_none qD none 0 w) ?_;rintro e w' ⟨rfl,rfl⟩;exact⟨rfl,(by unfold pQ;rw[List.mergeSort_nil];exact h),ZQ _ _,fun _ _ _=>rfl⟩
 ·obtain⟨g,cap,rfl,hb,hg,hc,hm,bQ,hH⟩:=holds_of_ownsRow (enc:=encStr) h hv
  refine Calls.mono (AnyM.slices_Sort_string qD g 0 cap zs w hH hg (by omega)) ?_;rintro e w' ⟨rfl,n,os,rfl⟩;have h1:=ownsRow_putRow (enc:=encStr) (q:=n) (k:=zs.length) (ys:=pQ zs) h (kT zs) (ZR _);have aG:=below_putRow (enc:=encStr) (q:=n) (d:=(pQ zs).toArray) (ZQ B w) hb;refine⟨rfl,?_,aG.trans (kg os (by have:=aG.size;omega)),fun k hk fO=>?_⟩
  ·rw[jat (by rw[kT];omega)]at h1
   exact bH h1 (kg os (ZR _))
  ·have hkg:k≠g:=fun e=>fO (by rw[e];rfl)
   have h2:=qT (enc:=encStr) (w:=w) (q:=n) (d:=(pQ zs).toArray) hkg;have h3:=aG.size;exact((kg (w:=Sort.putRow encStr (Sort.ahead w n) g 0 (pQ zs).toArray) os (ZR _)).block k (Z9 hk h3)).trans h2
theorem AM{w:World}{B:Nat}{v:Value}{zs:List (List UInt8)}(h:w.ownsRow B 9 1 v zs.length (zs.map encStr))(hl:zs.length<=256)(hB:B<=w.heap.size) :
  Calls Tryz.prog 209 #[v] w fun e w'=>(∃ v',e=.returned v'/\w'.ownsRow B 9 1 v' (Lib.compact zs).length ((Lib.compact zs).map encStr))/\Below B w w'/\∀ k,k<w.heap.size->v.ownBlock≠some k->w'.heap[k]?=w.heap[k]?:=by
 by_cases hv:v=.slice none 0 0
 ·subst hv
  have pZ:zs=[]:=by
   rcases h.2 with ⟨_,h2⟩ | ⟨g,cap,cur,h2,_⟩
   ·exact jab h2
   ·cases h2
  subst pZ;refine Calls.mono (AnyG.slices_Compact_string_empty oQ none 0 w) ?_;rintro e w' ⟨rfl,rfl⟩;exact⟨⟨_,rfl,h⟩,ZQ _ _,fun _ _ _=>rfl⟩
 ·obtain⟨g,cap,rfl,hb,hg,hc,hm,bQ,hH⟩:=holds_of_ownsRow (enc:=encStr) h hv
  have oH:=Lib.compact_length_le zs;refine Calls.mono (AnyG.slices_Compact_string oQ g 0 cap zs w hH (by omega) (by omega)) ?_;rintro e w' ⟨rfl,q,rfl⟩;have h1:=ownsRow_putRow (enc:=encStr) (q:=q) (k:=(Lib.compact zs).length) (ys:=Lib.compact zs++List.replicate (zs.length-(Lib.compact zs).length) []) h (by simp;omega) (by omega);rw[jaF]at h1;exact⟨⟨_,rfl,h1⟩,below_putRow (enc:=encStr) (ZQ B w) hb,fun k hk fO=>qT (fun e=>fO (by rw[e];rfl))⟩
theorem Dx{u:List (List Nat)}{x:List Nat}(hr:tW u)(hx:x∈u){t:Nat}(ht:t<u.length):u[t]<x↔t<plT u x:=by
 obtain⟨h1,h2⟩:=kL hx;rw[List.getElem?_eq_getElem h1]at h2;have h3:u[plT u x]=x:=Option.some.inj h2;have hp:=jbh.1 hr;constructor
 ·intro h
  rcases jae t (plT u x)with h4 | h4
  ·exact h4
  ·rcases jae (plT u x) t with h5 | h5
   ·have h6:=hp _ _ h1 ht h5
    rw[h3]at h6;exact absurd (rT h h6) (jbe _)
   ·obtain rfl:t=plT u x:=by omega
    rw[h3]at h;exact absurd h (jbe _)
 ·intro h
  have:=hp _ _ ht h1 h;rwa[h3]at this
theorem Dy{w:World}{v:Value}{u:List (List Nat)}(hs:Sv w v (cy u))(hl:u.length<=256)(hr:tW u)(hu:∀ s∈u,Bs s){x:List Nat}(hx:x∈u) :
  Calls Tryz.prog 234 #[v,.string (am x)] w fun e w'=>(∃ r,e=.returned (.tuple #[.int .i64 (plT u x:Nat),r]))/\Below w.heap.size w w':=by
 have yb:=hs;obtain⟨a,cap,rfl,h1,h2,h3,h4⟩:=hs;rw[dE]at *;have sT:0<u.length:=List.length_pos_of_mem hx;obtain⟨b,off,rfl,h6,h7⟩:=h4 sT;refine Calls.mono (Any2.slices_BinarySearch_string N9 b off u.length cap (fun t=>(u.map am).getD t (am x)) (am x) w (by omega) ?_) ?_
 ·intro j hj
  have:=h7 j _ (cJ hj);rw[this,ek];simp[List.getD_eq_getElem?_getD,hj]
 ·rintro e w' ⟨rfl,q,rfl⟩
  have hk:=(kL hx).1
  have BO:Lib.bsGo (fun t=>Op.bytesLess ((u.map am).getD t (am x)).toList (am x).toList) u.length 0 u.length=plT u x:=by
   refine Lib.bsGo_spec _ (plT u x) ?_ ?_ _ _ _ (by omega) (by omega) (by omega)
   ·intro t ht
    have M5:t<u.length:=by omega
    have e1:(u.map am).getD t (am x)=am u[t]:=by simp[List.getD_eq_getElem?_getD,M5]
    simp only[e1,bx];rw[nc (hu _ (ZV M5)) (hu _ hx)];exact decide_eq_true ((Dx hr hx M5).2 ht)
   ·intro t ht
    rcases jae t u.length with M5 | M5
    ·have e1:(u.map am).getD t (am x)=am u[t]:=by simp[List.getD_eq_getElem?_getD,M5]
     simp only[e1,bx];rw[nc (hu _ (ZV M5)) (hu _ hx)];refine decide_eq_false (fun h=>?_);have:=(Dx hr hx M5).1 h;omega
    ·have e1:(u.map am).getD t (am x)=am x:=by
      rw[List.getD_eq_getElem?_getD,List.getElem?_eq_none (by rw[ZU];omega)];rfl
     simp only[e1,bx];rw[nc (hu _ hx) (hu _ hx)];exact decide_eq_false (jbe _)
  rw[BO];exact⟨⟨_,rfl⟩,below_drewN (ZQ _ _) q⟩
theorem Dz{w:World}{vu v:Value}{u l:List (List Nat)}(hu:Sv w vu (cy u))(hs:Sv w v (cy l))(hl:l.length<=256)(uj:u.length<=256)(hr:tW u)(hub:∀ s∈u,Bs s)(hm:∀ x∈l,x∈u) :
  Calls Tryz.prog 211 #[vu,v] w fun e w'=>(∃ v',e=.returned v'/\br w' w.heap.size v' (l.map fun s=>(plT u s:Int)))/\Below w.heap.size w w':=by
 obtain⟨i0,hi,ce,hz1',bm⟩:=info_parts yY;have HU:=ae hu;have HS:=ae hs;have HR:=ae hr;have HM:=ae hm;have HUB:=ae hub;obtain⟨a,cap,rfl,aX,bw⟩:=hs.form1;rw[dE]at *;have hcm':cap<=9223372036854775807:=by unfold maxLen at bw;omega
 clear hs hu bw hr hm hub;obtain⟨D,hD⟩:∃ D,(l.map fun s=>(plT u s:Int))=D:=⟨_,rfl⟩;have hDl:D.length=l.length:=by rw[← hD,ZU]
 have Mz:Hid (∀ k (h:k<l.length),(aJ D)[k]?=some (.int .i64 (plT u l[k]:Nat))):=ae (fun k h=>by rw[← hD];simp[aJ,h]);rw[hD];have kF:=ae hDl;clear hD hDl;go_enter Tryz.func211,Tryz.ntmps211
 go_wp2_with (first | (refine wpList_make_full _ rfl _ _ 143 rfl w.heap.size 2 i0 (.int .i64 0) 1 Tryz.underlying143 hi ce hz1' .i64 .i64 _ _ l.length rfl rfl ?m1 ?m2 ?m3 ?m4 ?m5 ?_))
 case m1=>rfl
 case m2=>rfl
 case m3=>rw[bm];omega
 case m4=>unfold maxLen;omega
 case m5=>omega
 intro w4 gD iL;have bv:Below w.heap.size w w4:=(ZQ _ _).grown iL (ZR _) (fun k hk=>by cases hk)
 have ho4':w4.ownsRow w.heap.size 2 1 (.slice (some ⟨w.heap.size,0,none⟩) l.length l.length) l.length (dv (.int .i64 0) (aJ D) 0):=by
  rw[mw,cm,kF.out,← toList_madeCells_one];simpa using gD
 have eP:=ae ho4';have b9:=ae bv;clear gD iL bv ho4';go_wp2_with fail;go_loopw [15] (fun i wr=>∃ k:Nat,i=.int .i64 (k:Int)/\k<=l.length/\wr.ownsRow w.heap.size 2 1 (.slice (some ⟨w.heap.size,0,none⟩) l.length l.length) l.length (dv (.int .i64 0) (aJ D) k)/\Below w.heap.size w wr) (fun i _=>l.length-(intOf i).toNat)
 case atStart=>exact⟨0,rfl,by omega,eP.out,b9.out⟩
 case round =>
  obtain⟨k,rfl,hk,how,ay⟩:=hrel;have HB:=ae ay;have HO:=ae how;have bO:=ay.size;clear ay how;by_cases aB:k<l.length
  ·have hkD:k<(aJ D).length:=by rw[cm,kF.out];exact aB
   have hval:(aJ D)[k]=.int .i64 (plT u l[k]:Nat):=by
    have:=Mz.out k aB;rw[List.getElem?_eq_getElem hkD]at this;exact Option.some.inj this
   obtain⟨b,off,rfl,hb,dP⟩:=(HS.out.kept HB.out).at1 (cJ aB);have hmem:=HM.out l[k] (ZV aB);have HSr:=ae (Dy (HU.out.kept HB.out) uj HR.out HUB.out hmem);have hplt:=(kL hmem).1;have jM:k<(dv (.int .i64 0) (aJ D) k).length:=by rw[ir (by omega)];exact hkD
   have sV:=ae (lU (z:=.int .i64 0) hkD);rw[hval]at sV;rw[ek]at dP;clear hval hmem;generalize am l[k]=S at *;generalize plT u l[k]=pz at *;generalize hy:(dv (.int .i64 0) (aJ D) k)[k]=y;have hyy:=List.getElem?_eq_getElem jM;rw[hy]at hyy;clear hy;go_wp2_with fail;refine HSr.out.mono ?_;rintro e w5 ⟨⟨r,rfl⟩,bq⟩;have fT:=bH HO.out bq;have aR:=ae (HB.out.trans (bq.mono bO));have Eu:=(fT.cellAt k (by omega)).trans hyy;have Ev:=fT.frozenAt k;have hST:=fT.stored k (.int .i64 (pz:Nat));rw[sV.out]at hST;have cP:=ae hST;have Mk:=(fT.lt w.heap.size rfl).2;clear hST bq fT;go_wp2_with fail;go_roundw
   case rel=>exact⟨k+1,by go_num,by omega,cP.out.1,cL aR.out (ZR _) _⟩
   case measure=>simp[intOf];omega
  ·obtain rfl:k=l.length:=by omega
   have e:dv (.int .i64 0) (aJ D) l.length=aJ D:=by
    have:=oq (.int .i64 0) (aJ D);rwa[cm,kF.out]at this
   rw[e]at HO
   have HO':Hid (br wr w.heap.size (.slice (some ⟨w.heap.size,0,none⟩) l.length l.length) D):=ae (by
    unfold br;rw[kF.out];exact HO.out)
   clear HO e;go_wp2_with fail;go_ret
   exact⟨⟨_,rfl,HO'.out⟩,HB.out⟩
theorem eE{W W':World}{B p:Nat}{x:Value}(h:W.cell? ⟨p,0,none⟩=some x)(hb:Below B W W')(hp:p<B):W'.cell? ⟨p,0,none⟩=some x:=(hb.cell (p:=⟨p,0,none⟩) hp).trans h
theorem nB{l:List (List Nat)}(ht:Ts l)(hl:l.length<=256):(fx l).length<=21525:=(rU ht hl).1
theorem xP{w:World}{g p:Nat}{v vl:Value}{l:List (List Nat)}(hg:Gs w g v [])(hp:p<g)(hc:w.cell? ⟨p,0,none⟩=some vl)(hs:Sv w vl (cy l))(fU:∀ k,vl.ownBlock=some k->k<g)(hl:l.length<=256)(ht:Ts l) :
  Calls Tryz.prog 205 #[.func (.func 168) #[] #[.pointer (some ⟨g,0,none⟩)],.pointer (some ⟨p,0,none⟩)] w (jm w g (plain l)):=by
 have HG:=ae hg;have BB:=hg.lt;have HC:=ae hc;have HS:=ae hs;have rB:=ae fU;have HT:=ae ht;have BM:=ae (eU (hg.kept (ak w (.cells #[.int .u8 0] 5))) (cD w 0).sv (by simp));have cW:(w.alloc (.cells #[.int .u8 0] 5)).heap.size=w.heap.size+1:=ZS _ _;clear hg hc hs fU ht;go_enter Tryz.func205,Tryz.ntmps205
 go_wp2_with fail;refine BM.out.mono ?_;rintro e w1 ⟨rfl,⟨v1,eQ⟩,aG,_⟩;have aQ:=ae (((ak w (.cells #[.int .u8 0] 5)).mono (jac BB)).trans aG);have lp:=eE HC.out aQ.out hp;have En:=ae (tB eQ (by simp) (HS.out.keptB rB.out aQ.out) rB.out hl HT.out);obtain⟨a,cap,rfl,_,_⟩:=HS.out.form1;clear eQ aG;go_wp2_with fail;refine En.out.mono ?_;rintro e w2 ⟨rfl,⟨v2,gK⟩,aD⟩;have Hp:=ae gK;have aN:=ae (aQ.out.trans aD);clear gK aD;go_wp2_with fail;go_end0
 exact⟨rfl,⟨_,Hp.out⟩,aN.out⟩
theorem AN{w:World}{vl:Value}{l:List (List Nat)}(hs:Sv w vl (cy l))(fU:∀ k,vl.ownBlock=some k->k<w.heap.size)(hl:l.length<=256)(ht:Ts l) :
  Calls Tryz.prog 172 #[vl] w (du w (plain l)):=by
 obtain⟨a,cap,rfl,_,_⟩:=hs.form1
 have HGA:=ae (Qi (w:=w.alloc (.cells #[.slice a (cy l).length cap] 144)) (p:=.pointer (some ⟨w.heap.size,0,none⟩)) (bs:=plain l) (fun W hg hb=>by
  have hz:=ZS w (.cells #[.slice a (cy l).length cap] 144);refine xP hg (by omega) ?_ ((hs.kept (ak w _)).kept hb) (fun k hk=>by have:=fU k hk;omega) hl ht;rw[hb.cell (p:=⟨w.heap.size,0,none⟩) (by show w.heap.size<_;omega)];exact aK _ _ _))
 have HB:=ae (ak w (.cells #[.slice a (cy l).length cap] 144));have hz:=ZS w (.cells #[.slice a (cy l).length cap] 144);clear hs fU ht;generalize plain l=bs at *;generalize (cy l).length=n at *;go_enter Tryz.func172,Tryz.ntmps172
 go_wp2_with fail;refine HGA.out.mono ?_;rintro e w1 ⟨⟨v1,rfl,eG⟩,aG⟩;have fA:=ae (eG.low (B:=w.heap.size) (by omega));have aQ:=ae (HB.out.trans (aG.mono (by omega)));clear eG aG;go_wp2_with fail;go_ret
 exact⟨⟨_,rfl,fA.out⟩,aQ.out⟩
theorem xQ{w:World}{g p q:Nat}{v vl vu:Value}{l:List (List Nat)}(hg:Gs w g v [])(hp:p<g)(hq:q<g)(UQ:w.cell? ⟨q,0,none⟩=some vu)(eO:w.cell? ⟨p,0,none⟩=some vl)
  (hs:Sv w vl (cy l)) (fU:∀ k,vl.ownBlock=some k->k<g) (hu:Sv w vu (cy (tuq l))) (VY:∀ k,vu.ownBlock=some k->k<g) (hl:l.length<=256) (ht:Ts l) :
  Calls Tryz.prog 210 #[.func (.func 168) #[] #[.pointer (some ⟨g,0,none⟩)],.pointer (some ⟨q,0,none⟩),.pointer (some ⟨p,0,none⟩)] w (jm w g (dh l)):=by
 have BB:=hg.lt;have HCU:=ae UQ;have pe:=ae eO;have HS:=ae hs;have HU:=ae hu;have rB:=ae fU;have RJ:=ae VY;have HT:=ae ht;have uj:(tuq l).length<=256:=by have:=fE l;omega
 have htxl:=nB (li ht) uj;have fM:=gx (dZ hl) (by rw[bU];exact hl);have ry:Hid (dh l=1::(uv (tuq l).length++(fx (tuq l)++cN (cI l)))):=rfl;have mY:=bI (n:=(tuq l).length) (by omega);have BM:=ae (eU (hg.kept (ak w (.cells #[.int .u8 1] 5))) (cD w 1).sv (by simp));have cW:(w.alloc (.cells #[.int .u8 1] 5)).heap.size=w.heap.size+1:=ZS _ _;obtain⟨a,cap,rfl,_,_⟩:=hs.form1;obtain⟨au,capu,rfl,_,_⟩:=hu.form1;rw[dE]at *;have HPU:=ae (dG (tuq l).length (by omega));clear hg eO hs fU ht hu VY;go_enter Tryz.func210,Tryz.ntmps210
 go_wp2_with fail;refine BM.out.mono ?_;rintro e w1 ⟨rfl,⟨v1,eQ⟩,aG,_⟩;have aQ:=ae (((ak w (.cells #[.int .u8 1] 5)).mono (jac BB)).trans aG);have sX:=ae eQ;have RK:=eE HCU.out aQ.out hq;clear eQ aG UQ;go_wp2_with fail;refine(HPU.out _).mono ?_;rintro e w2 ⟨⟨v2,rfl,fq⟩,aD⟩;have En:=ae (eU (sX.out.kept aD) fq.sv (by simp;omega));have aN:=ae (aQ.out.trans (aD.mono (jac sX.out.lt)));clear fq aD RK;go_wp2_with fail;refine En.out.mono ?_;rintro e w3 ⟨rfl,⟨v3,hg3⟩,aP,_⟩;have bM:=ae (aN.out.trans aP);have hcu3:=eE HCU.out bM.out hq;have Hz:=ae (tB hg3 (by simp;omega) (HU.out.keptB RJ.out bM.out) RJ.out uj (li HT.out));clear hg3 aP;go_wp2_with fail;refine Hz.out.mono ?_;rintro e w4 ⟨rfl,⟨v4,iL⟩,bv⟩;have b9:=ae (bM.out.trans bv);have SW:=ae iL;have hcu4:=eE HCU.out b9.out hq;have hcl4:=eE pe.out b9.out hp;have XO:=ae (Dz (HU.out.keptB RJ.out b9.out) (HS.out.keptB rB.out b9.out) hl uj (vE l) (fun s hs=>(li HT.out s hs).2) (fun x hx=>ja.2 hx));clear iL bv hcu3;go_wp2_with fail;refine XO.out.mono ?_;rintro e w5 ⟨⟨v5,rfl,fT⟩,bq⟩;have hG5:=SW.out.kept bq;have My:=ae hG5;have aR:=ae (b9.out.trans (bq.mono (jac SW.out.lt)));have HP5:=ae (sy (l:=cI l) fT.sv (by rw[bU];exact hl) (dZ hl));clear fT bq hcu4 hcl4 hG5;go_wp2_with fail;refine HP5.out.mono ?_;rintro e w6 ⟨⟨v6,rfl,zK⟩,dN⟩;have Yc:=ae (eU (My.out.kept dN) zK.sv (by simp;omega));have i5:=ae (aR.out.trans (dN.mono (jac My.out.lt)));clear zK dN;go_wp2_with fail;refine Yc.out.mono ?_;rintro e w7 ⟨rfl,⟨v7,hg7⟩,jd,_⟩
 have HG7:Hid (Gs w7 g v7 (dh l)):=ae (by
  rw[ry.out];simpa [Z4]using hg7)
 have ia:=ae (i5.out.trans jd);clear hg7 jd;go_wp2_with fail;go_end0
 exact⟨rfl,⟨_,HG7.out⟩,ia.out⟩
theorem wL{W:World}{p T:Nat}{c:Array Value}(h:W.heap[p]?=some (.cells c T (0,0)))(hc:0<c.size):W.cell? ⟨p,0,none⟩=some c[0]/\W.frozen? ⟨p,0,none⟩=false :=
 ⟨by rw[ax h];simp[hc],by simp[World.frozen?,h]⟩
theorem Gn{w:World}{B e size n q i:Nat}{v x:Value}{xs:List Value}(h:w.ownsRow B e size v n xs)(hq:∀ k,v.ownBlock=some k->k≠q):(w.setCell ⟨q,i,none⟩ x).ownsRow B e size v n xs:=by
 obtain⟨h0,h | ⟨g,cap,cur,rfl,h2,h3,h4⟩⟩:=h
 ·exact⟨h0,Or.inl h⟩
 ·exact⟨h0,Or.inr ⟨g,cap,cur,rfl,h2,(Below.heap_setCell _ _ _ _ (hq g rfl)).trans h3,h4⟩⟩
theorem DA{w:World}{B e n q T:Nat}{v:Value}{xs:List Value}{c:Array Value}(h:w.ownsRow B e 1 v n xs)(hq:w.heap[q]?=some (.cells c T (0,0)))(hT:T≠e):∀ k,v.ownBlock=some k->k≠q:=by
 intro k hk e1;subst e1;obtain⟨h0,⟨rfl,_⟩ | ⟨g,cap,cur,rfl,h2,h3,h4⟩⟩:=h
 ·cases hk
 ·cases hk
  rw[hq]at h3;cases h3
  exact hT rfl
theorem AO{w:World}{vl:Value}{l:List (List Nat)}(hs:Sv w vl (cy l))(fU:∀ k,vl.ownBlock=some k->k<w.heap.size)(hl:l.length<=256)(ht:Ts l) :
  Calls Tryz.prog 173 #[vl] w (du w (dh l)):=by
 obtain⟨a,cap,rfl,_,_⟩:=hs.form1;have HS:=ae hs;have rB:=ae fU;have HT:=ae ht;rw[dE]at *;have l8:=ae (ak w (.cells #[.slice a l.length cap] 144));have UR:=ZS w (.cells #[.slice a l.length cap] 144);have HCX:=ae (aK w (.slice a l.length cap) 144);have pe:=ae (Gm (hs.kept l8.out) hl);clear hs fU ht;go_enter Tryz.func173,Tryz.ntmps173
 go_wp2_with fail;refine pe.out.mono ?_;rintro e w1 ⟨⟨v1,rfl,eG⟩,aG⟩;have fA:=ae eG;have aQ:=ae aG;have cW:=aG.size;obtain⟨a1,c1,rfl,_,_⟩:=aM eG;have Bm:Hid ((w1.alloc (.cells #[.slice a1 l.length c1] 144)).heap[w1.heap.size]?=some (.cells #[.slice a1 l.length c1] 144 (0,0))):=ae (heap_alloc_new _ _);have bm:=ZS w1 (.cells #[.slice a1 l.length c1] 144);have hO2:=fA.out.kept (ak w1 (.cells #[.slice a1 l.length c1] 144));have dr:=ae hO2;have aD:=aQ.out.trans ((ak w1 (.cells #[.slice a1 l.length c1] 144)).mono cW);have aN:=ae aD;have hlu:(upT l).length=l.length:=sI l
 have hS2:(w1.alloc (.cells #[.slice a1 l.length c1] 144)).ownsRow (w.alloc (.cells #[.slice a l.length cap] 144)).heap.size 9 1 (.slice a1 l.length c1) (upT l).length ((upT l).map encStr):=by
  rw[hlu,← Dw];exact hO2
 have HSO:=ae (Lt hS2 (by omega) (by omega));clear eG aG hO2 aD hS2 hlu;go_wp2_with fail;refine HSO.out.mono ?_;rintro e w3 ⟨rfl,fN,aP,Kb⟩;have hlu:(upT l).length=l.length:=sI l;have yh:∀ k,(Value.slice a1 l.length c1).ownBlock=some k->k<w1.heap.size:=fun k hk=>(fA.out.lt k hk).2
 have J8:w3.heap[w1.heap.size]?=some (.cells #[.slice a1 l.length c1] 144 (0,0)):=(Kb w1.heap.size (by omega) (fun e=>by have:=yh _ e;omega)).trans Bm.out;have HQ3:=ae J8;obtain⟨Hw,ix⟩:=wL J8 (by simp);have iB:=aP.size;have bM:=ae (aN.out.trans aP);have hls:(pQ (upT l)).length=l.length:=by rw[kT];exact hlu
 have ho3':w3.ownsRow (w.alloc (.cells #[.slice a l.length cap] 144)).heap.size 9 1 (.slice a1 l.length c1) (pQ (upT l)).length ((pQ (upT l)).map encStr):=by
  rw[kT];exact fN
 have HCO:=ae (AM ho3' (by omega) (by omega));rw[Gl (fun s hs=>(HT.out s hs).2),← Dw,sI]at HCO;simp only[List.getElem_toArray,jbj]at Hw;clear fN ho3' aP Kb J8 hls hlu;go_wp2_with fail;refine HCO.out.mono ?_;rintro e w4 ⟨⟨v4,rfl,gD⟩,bv,hk4⟩;have hq4:w4.heap[w1.heap.size]?=some (.cells #[.slice a1 l.length c1] 144 (0,0)):=(hk4 w1.heap.size (by omega) (fun e=>by have:=yh _ e;omega)).trans HQ3.out;obtain⟨Zu,pj⟩:=wL hq4 (by simp);simp only[List.getElem_toArray,jbj]at Zu;have He:=bv.size;have b9:=ae (bM.out.trans bv);obtain⟨a4,c4,rfl,_,_⟩:=aM gD;have Ye:=DA gD hq4 (by decide);have hO5:=Gn (i:=0) (x:=.slice a4 (tuq l).length c4) gD Ye;have Zv:=cM hq4 0 (.slice a4 (tuq l).length c4);have aR:=ae (b9.out.setCell (p:=⟨w1.heap.size,0,none⟩) (by show _<=w1.heap.size;omega) (.slice a4 (tuq l).length c4));have uG:(w4.setCell ⟨w1.heap.size,0,none⟩ (.slice a4 (tuq l).length c4)).heap.size=w4.heap.size:=World.size_setCell _ _ _
 have HGA:=ae (Qj (w:=w4.setCell ⟨w1.heap.size,0,none⟩ (.slice a4 (tuq l).length c4)) (p:=.pointer (some ⟨w1.heap.size,0,none⟩)) (q:=.pointer (some ⟨w.heap.size,0,none⟩)) (bs:=dh l) (fun W hg hb=>by
  have fM:Below (w.alloc (.cells #[.slice a l.length cap] 144)).heap.size (w.alloc (.cells #[.slice a l.length cap] 144)) W:=aR.out.trans (hb.mono (by omega));have kY:Below w.heap.size w W:=l8.out.trans (fM.mono (by omega));refine xQ (vu:=.slice a4 (tuq l).length c4) hg (by omega) (by omega) ?_ ?_ (HS.out.kept kY) (fun k hk=>by have:=rB.out k hk;omega) ?_ (fun k hk=>?_) hl HT.out
  ·rw[hb.cell (p:=⟨w1.heap.size,0,none⟩) (by show w1.heap.size<_;omega),ax Zv]
   rfl
  ·rw[fM.cell (p:=⟨w.heap.size,0,none⟩) (by show w.heap.size<_;omega)]
   exact HCX.out
  ·exact(Sv.of_own hO5).kept hb
  ·have:=(hO5.lt k hk).2
   omega))
 clear gD bv hk4 hq4 Ye hO5 Zv;generalize dh l=bs at *;generalize tuq l=ul at *;go_wp2_with fail;refine HGA.out.mono ?_;rintro e w6 ⟨⟨v6,rfl,zK⟩,dN⟩;have mU:=ae (zK.low (B:=w.heap.size) (by omega));have i5:=ae (l8.out.trans ((aR.out.trans (dN.mono (by omega))).mono (by omega)));clear zK dN;go_wp2_with fail;go_ret
 exact⟨⟨_,rfl,mU.out⟩,i5.out⟩
theorem xR{w:World}{vl:Value}{l:List (List Nat)}(hs:Sv w vl (cy l))(fU:∀ k,vl.ownBlock=some k->k<w.heap.size)(hl:l.length<=256)(ht:Ts l) :
  Calls Tryz.prog 130 #[vl] w (du w (eJ l)):=by
 have HE:=ae (AN hs fU hl ht);have HP:=ae (fun(W:World) (hb:Below w.heap.size w W)=>AO (hs.kept hb) (fun k hk=>Z9 (fU k hk) hb.size) hl ht);have HW:Hid (eJ l=if (dh l).length<(plain l).length then dh l else plain l):=rfl;clear hs fU ht;generalize eJ l=wb at *;generalize dh l=bl at *;generalize plain l=bp at *;go_enter Tryz.func130,Tryz.ntmps130
 go_wp2_with fail;refine HE.out.mono ?_;rintro e w1 ⟨⟨v1,rfl,eG⟩,aG⟩;have fA:=ae eG;have aQ:=ae aG;have cW:=aG.size;obtain⟨a1,c1,rfl⟩:=eG.len;clear eG aG;go_wp2_with fail;refine(HP.out _ aQ.out).mono ?_;rintro e w2 ⟨⟨v2,rfl,fq⟩,aD⟩;have HO1':=ae (fA.out.kept aD);have dr:=ae (fq.low cW);have aN:=ae (aQ.out.trans (aD.mono cW));obtain⟨a2,c2,rfl⟩:=fq.len;clear fq aD;by_cases h:bl.length<bp.length
 ·have h':(bl.length:Int)<(bp.length:Int):=by omega
  rw[if_pos h]at HW;clear h;go_wp2_with fail;go_ret
  rw[HW.out];exact⟨⟨_,rfl,dr.out⟩,aN.out⟩
 ·have h':¬ (bl.length:Int)<(bp.length:Int):=by omega
  rw[if_neg h]at HW;clear h;go_wp2_with fail;go_ret
  rw[HW.out];exact⟨⟨_,rfl,HO1'.out⟩,aN.out⟩
end Go.Proofs.YtpljdjmpamjkhaaGreatDoor
