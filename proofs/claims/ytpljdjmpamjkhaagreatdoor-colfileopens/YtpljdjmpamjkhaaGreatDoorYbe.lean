import Derived.Test.YtpljdjmpamjkhaaGreatDoorYbd
import Derived.Test.YtpljdjmpamjkhaaGreatDoorYax
import Derived.Test.YtpljdjmpamjkhaaGreatDoorYay
import Derived.Test.YtpljdjmpamjkhaaGreatDoorYaw
import Derived.RangeFuncNested
import Derived.RangeFuncBound
import Derived.RangeFuncCalls
import Derived.RangeFuncLeaves
import Derived.Shelf.Abstract
import Derived.Shelf.RegionOpen
import Derived.WalkKit
import Derived.OwnWalkIn
import Derived.TacticsInMore
import Derived.LoopNIn
import Derived.LoopIn
import Derived.Sort.QuietIn
set_option linter.unusedVariables false
set_option linter.unusedSimpArgs false
set_option maxRecDepth 100000
set_option maxHeartbeats 4000000
namespace Go.Proofs.YtpljdjmpamjkhaaGreatDoor
open Go.RowKit Go.Lib
theorem iu:∀(t:List Nat) (s:List (Nat×Int×List Nat)),(gR t s).length=t.length
 | [],s=>rfl
 | x::t,s=>by
  unfold gR;split
  ·rw[ZW,ZW,iu t s]
  ·rw[ZW,ZW,iu t s.tail]
theorem sL:∀{t:List Nat} {s:List (Nat×Int×List Nat)} {j:Nat},(∀ x∈t,x<2)->(h:j<t.length)->(gR t s)[j]?=some (if t[j]=0 then nul else s.getD (t.take j).sum nul)
 | x::t,s,0,h2,h=>by
  unfold gR;by_cases hx:x=0
  ·simp[hx]
  ·cases s<;>simp[hx]
 | x::t,s,j+1,h2,h=>by
  have ht:∀ y∈t,y<2:=fun y hy=>h2 y (by simp[hy])
  unfold gR;by_cases hx:x=0
  ·have:=sL (s:=s) ht (show j<t.length by simpa using h)
   simp[hx,this]
  ·have ES:x=1:=by have:=h2 x (by simp);omega
   have:=sL (s:=s.tail) ht (show j<t.length by simpa using h);rw[if_neg hx,List.getElem?_cons_succ,this]
   have e:s.tail.getD (t.take j).sum nul=s.getD (1+(t.take j).sum) nul:=by
    cases s with
    | nil=>simp
    | cons c s=>simp[List.getD_eq_getElem?_getD,Nat.add_comm 1]
   simp only[e,ES,List.getElem_cons_succ,jbn,List.sum_cons]
theorem Gy{z:Value}{l:List Value}{i:Nat}(h:i<l.length)(he:l[i]=z):dv z l (i+1)=dv z l i:=by
 rw[← lU h,he]
 have hg:(dv z l i)[i]?=some z:=by
  unfold dv;rw[List.getElem?_append_right (by rw[ZX];omega),ZX,jaJ (by omega),ja9,List.getElem?_replicate,if_pos (by omega)]
 apply List.ext_getElem?
 intro k;rw[List.getElem?_set];by_cases hk:i=k
 ·subst hk
  rw[if_pos rfl,hg,if_pos (by rw[ir (by omega)];exact h)]
 ·rw[if_neg hk]
theorem Gz{w:World}{vt vs:Value}{t:List Nat}{s:List (Nat×Int×List Nat)}(ht:Sv w vt (aE .u64 t))(h2:∀ x∈t,x<2)(hl:t.length<=256)(hs:Sv w vs (aI s))(nI:s.length=t.sum)(hnz:∀ c∈s,c.1≠0) :
  Calls Tryz.prog 265 #[vt,vs] w fun e w'=>(∃ v',e=.returned v'/\OwnV w' w.heap.size v' (gR t s))/\Below w.heap.size w w':=by
 obtain⟨i0,hi,ce,hz1',bm⟩:=info_parts uQ;have HT:=ae ht;have HS:=ae hs;have H2:=ae h2;have HNZ:=ae hnz;obtain⟨a,cap,rfl,aX,bw⟩:=ht.form1;obtain⟨a2,cap2,rfl,Rk,yc⟩:=hs.form1;rw[ap]at *;rw[aF]at *;have hcm':cap<=9223372036854775807:=by unfold maxLen at bw;omega
 have hcm2':cap2<=9223372036854775807:=by unfold maxLen at yc;omega
 have MF:=ae (qX h2);obtain⟨D,hD⟩:∃ D,gR t s=D:=⟨_,rfl⟩;have hDl:D.length=t.length:=by rw[← hD,iu]
 have Mz:Hid (∀ k (h:k<t.length),(aI D)[k]?=some (de (if t[k]=0 then nul else s.getD (t.take k).sum nul))):=ae (fun k h=>by
  have:=sL (s:=s) h2 h;rw[hD]at this;simp[aI,this])
 rw[hD];have kF:=ae hDl;have HSUM:=ae nI;clear ht hs bw yc hD hDl h2 hnz;go_enter Tryz.func265,Tryz.ntmps265
 go_wp2_with (first | (refine wpList_make_full _ rfl _ _ 79 rfl w.heap.size 78 i0 .nilIface 1 Tryz.underlying79 hi ce hz1' .i64 .i64 _ _ t.length rfl rfl ?m1 ?m2 ?m3 ?m4 ?m5 ?_))
 case m1=>rfl
 case m2=>rfl
 case m3=>rw[bm];omega
 case m4=>unfold maxLen;omega
 case m5=>omega
 intro w4 gD iL;have bv:Below w.heap.size w w4:=(ZQ _ _).grown iL (ZR _) (fun k hk=>by cases hk)
 have ho4':w4.ownsRow w.heap.size 78 1 (.slice (some ⟨w.heap.size,0,none⟩) t.length t.length) t.length (dv .nilIface (aI D) 0):=by
  rw[mw,aF,kF.out,← toList_madeCells_one];simpa using gD
 have eP:=ae ho4';have b9:=ae bv;clear gD iL bv ho4';go_wp2_with fail;go_loopw [6,14] (fun o i wr=>∃ k:Nat,o=.int .i64 ((t.take k).sum:Int)/\i=.int .i64 (k:Int)/\k<=t.length/\wr.ownsRow w.heap.size 78 1 (.slice (some ⟨w.heap.size,0,none⟩) t.length t.length) t.length (dv .nilIface (aI D) k)/\Below w.heap.size w wr) (fun _ i _=>t.length-(intOf i).toNat)
 case atStart=>exact⟨0,rfl,rfl,by omega,eP.out,b9.out⟩
 case round =>
  obtain⟨k,rfl,rfl,hk,how,ay⟩:=hrel;have HB:=ae ay;have HO:=ae how;have bO:=ay.size;clear ay how;by_cases aB:k<t.length
  ·have hkD:k<(aI D).length:=by rw[aF,kF.out];exact aB
   have hval:(aI D)[k]=de (if t[k]=0 then nul else s.getD (t.take k).sum nul):=by
    have:=Mz.out k aB;rw[List.getElem?_eq_getElem hkD]at this;exact Option.some.inj this
   obtain⟨b,off,rfl,hb,dP⟩:=(HT.out.kept HB.out).at1 (bR aB);have SG:=H2.out t[k] (ZV aB);have rx:=ae (oZ aB);have hlt':(k:Int)<(t.length:Int):=by omega
   have hsk:(t.take k).sum<=256:=by
    have:=qX (l:=t.take k) fun x hx=>H2.out x (jaw hx)
    rw[ZX]at this;omega
   by_cases hx:t[k]=0
   ·rw[if_pos hx]at hval
    have sV:=ae (Gy (z:=.nilIface) hkD hval);rw[hx]at dP rx;clear hval hx SG;generalize (t.take k).sum=sm at *;go_wp2_with fail;go_roundw
    case rel=>exact⟨k+1,by rw[rx.out,jaC],by go_num,by omega,by rw[sV.out];exact HO.out,HB.out⟩
    case measure=>simp[intOf];omega
   ·have ES:t[k]=1:=by omega
    rw[if_neg hx]at hval
    have fo:(t.take k).sum<s.length:=by
     have h1:(t.take (k+1)).sum<=t.sum:=by
      conv=>rhs;rw[← ja5 (k+1) t,List.sum_append]
      omega
     rw[rx.out,ES]at h1;rw[HSUM.out];omega
    have ee:s.getD (t.take k).sum nul=s[(t.take k).sum]:=by rw[List.getD_eq_getElem?_getD,List.getElem?_eq_getElem fo];rfl
    rw[ee]at hval;obtain⟨b2,off2,rfl,aD,Hf⟩:=(HS.out.kept HB.out).at1 (cK fo);obtain⟨tt,uu,hvv⟩:=lz s[(t.take k).sum] (HNZ.out _ (ZV fo));rw[hvv]at Hf hval;rw[ES]at dP rx;have jM:k<(dv .nilIface (aI D) k).length:=by rw[ir (by omega)];exact hkD
    have sV:=ae (lU (z:=.nilIface) hkD);rw[hval]at sV;have fT:=HO.out;have Eu:=(fT.cellAt k (by omega)).trans (List.getElem?_eq_getElem jM);have Ev:=fT.frozenAt k;have hST:=fT.stored k (.iface tt uu);rw[sV.out]at hST;have cP:=ae hST;have Mk:=(fT.lt w.heap.size rfl).2;clear hST fT hval hvv ee hx ES SG;generalize (dv .nilIface (aI D) k)[k]=y at *;generalize (t.take k).sum=sm at *;have hsl':(sm:Int)<(s.length:Int):=by omega
    go_wp2_with fail;go_roundw
    case rel=>exact⟨k+1,by rw[rx.out];go_num,by go_num,by omega,cP.out.1,cL HB.out (ZR _) _⟩
    case measure=>simp[intOf];omega
  ·obtain rfl:k=t.length:=by omega
   have e:dv .nilIface (aI D) t.length=aI D:=by
    have:=oq .nilIface (aI D);rwa[aF,kF.out]at this
   rw[e]at HO
   have HO':Hid (OwnV wr w.heap.size (.slice (some ⟨w.heap.size,0,none⟩) t.length t.length) D):=ae (by
    unfold OwnV;rw[kF.out];exact HO.out)
   have gJ:¬ ((t.length:Nat):Int)<(t.length:Int):=by omega
   clear HO e;go_wp2_with fail;go_ret
   exact⟨⟨_,rfl,HO'.out⟩,HB.out⟩
def qY(n k:Nat):List Nat:=(le4 n).take k++List.replicate (4-k) 0
theorem Lw(n:Nat){k:Nat}(h:k<=4):(qY n k).length=4:=by
 unfold qY;simp[le4]
 omega
theorem Lx(n:Nat){k:Nat}(h:k<4):(qY n k).set k (n / 2 ^ (8*k) % 256)=qY n (k+1):=by
 have hk:k=0∨k=1∨k=2∨k=3:=by omega
 rcases hk with rfl | rfl | rfl | rfl<;>simp[qY,le4]
theorem Ly(n:Nat)(hn:n<9223372036854775808)(w:World):Calls Tryz.prog 85 #[.int .i64 (n:Int)] w (du w (le4 n)):=by
 obtain⟨i0,hi,ce,hz1',bm⟩:=info_parts jf;go_enter Tryz.func85,Tryz.ntmps85
 go_wp2_with (first | (refine wpList_make_full _ rfl _ _ 30 rfl w.heap.size 5 i0 (.int .u8 0) 1 Tryz.underlying30 hi ce hz1' .i64 .i64 _ _ 4 rfl rfl ?m1 ?m2 ?m3 ?m4 ?m5 ?_))
 case m1=>rfl
 case m2=>rfl
 case m3=>rw[bm];omega
 case m4=>unfold maxLen;omega
 case m5=>omega
 intro w4 gD iL;have bv:Below w.heap.size w w4:=(ZQ _ _).grown iL (ZR _) (fun k hk=>by cases hk)
 have eP:Hid (aC w4 w.heap.size (.slice (some ⟨w.heap.size,0,none⟩) 4 4) (qY n 0)):=ae (by
  unfold aC;have h9:=gD;rw[jS]at h9;exact h9)
 have b9:=ae bv;clear gD iL bv;go_wp2_with fail;go_loopw [8] (fun i wr=>∃ k:Nat,k<=4/\i=.int .i64 (k:Int)/\aC wr w.heap.size (.slice (some ⟨w.heap.size,0,none⟩) 4 4) (qY n k)/\Below w.heap.size w wr) (fun i _=>4-(intOf i).toNat)
 case atStart=>exact⟨0,by omega,rfl,eP.out,b9.out⟩
 case round =>
  obtain⟨k,hk,rfl,az,ay⟩:=hrel;have HO:=ae az;have HB:=ae ay;have bO:=ay.size;clear az ay;by_cases aB:k<4
  ·have hlt':(k:Int)<4:=by omega
   have bQ:(qY n k).length=4:=Lw n hk;obtain⟨hc,hf⟩:=HO.out.at (j:=k) (by omega);have cP:=ae (HO.out.stored k (n / 2 ^ (8*k) % 256));have sV:=ae (Lx n aB);rw[sV.out]at cP;have zJ:((n / 2 ^ (8*k) % 256:Nat):Int)=(n:Int) / 2 ^ (8*k) % 256:=by simp
   rw[zJ]at cP;clear sV zJ;go_wp2_with fail;go_roundw
   case rel=>exact⟨k+1,by omega,by go_num,cP.out,cL HB.out (ZR _) _⟩
   case measure=>simp[intOf];omega
  ·obtain rfl:k=4:=by omega
   have gJ:¬ ((4:Nat):Int)<4:=by omega
   go_wp2_with fail;go_ret
   refine⟨⟨_,rfl,?_⟩,HB.out⟩;simpa [qY,le4]using HO.out
def Rv(W:World)(v:Value)(rs:List Row):Prop :=
 ∃ a cap,v=.slice a rs.length cap/\rs.length<=cap/\cap<=maxLen/\(a=none->cap=0)/\(0<rs.length->∃ b off,a=some ⟨b,off,none⟩/\b<W.heap.size/\∀ j (h:j<rs.length),∃ rv,W.cell? ⟨b,off+j,none⟩=some rv/\Sv W rv (aI rs[j]))
theorem Rv.kept{W W':World}{v:Value}{rs:List Row}(h:Rv W v rs)(hb:Below W.heap.size W W'):Rv W' v rs:=by
 obtain⟨a,cap,h1,h2,h3,h4,h5⟩:=h;refine⟨a,cap,h1,h2,h3,h4,fun h0=>?_⟩;obtain⟨b,off,h6,h7,h8⟩:=h5 h0;refine⟨b,off,h6,Z9 h7 hb.size,fun j hj=>?_⟩;obtain⟨rv,h9,mY⟩:=h8 j hj;exact⟨rv,(hb.cell (p:=⟨b,off+j,none⟩) h7).trans h9,mY.kept hb⟩
theorem Rv.nil(W:World):Rv W (.slice none 0 0) []:=⟨none,0,rfl,ZR _,by unfold maxLen;omega,fun _=>rfl,fun h=>by simp at h⟩
theorem Rv.form{W:World}{v:Value}{rs:List Row}(h:Rv W v rs):∃ a cap,v=.slice a rs.length cap/\rs.length<=cap/\cap<=9223372036854775807/\(a=none->cap=0):=by
 obtain⟨a,cap,h1,h2,h3,h4,_⟩:=h;exact⟨a,cap,h1,h2,by unfold maxLen at h3;omega,h4⟩
theorem Rv.at{W:World}{a:Option Addr}{n cap:Nat}{rs:List Row}(h:Rv W (.slice a n cap) rs){k:Nat}(hk:k<rs.length) :
  ∃ b off rv,a=some ⟨b,off,none⟩/\b<W.heap.size/\W.cell? ⟨b,off+k,none⟩=some rv/\Sv W rv (aI rs[k]):=by
 obtain⟨a',cap',e,h1,h2,h3,h4⟩:=h;simp only[Value.slice.injEq]at e;obtain⟨rfl,_,_⟩:=e;obtain⟨b,off,rfl,h5,h6⟩:=h4 (by omega);obtain⟨rv,h7,h8⟩:=h6 k hk;exact⟨b,off,rv,rfl,h5,h7,h8⟩
theorem wP(c:Cl):de c=.nilIface∨∃ t u,de c=.iface t u:=by
 unfold de;split
 ·exact Or.inl rfl
 ·split
  ·exact Or.inr ⟨_,_,rfl⟩
  ·split<;>exact Or.inr ⟨_,_,rfl⟩
theorem AR{w:World}{v:Value}{rs:List Row}(hs:Rv w v rs)(hl:rs.length<=1000){c:Nat}(hc:∀ r∈rs,c<r.length) :
  Calls Tryz.prog 58 #[v,.int .i64 (c:Int)] w fun e w'=>(∃ v',e=.returned v'/\OwnV w' w.heap.size v' (cT rs c))/\Below w.heap.size w w':=by
 obtain⟨i0,hi,ce,hz1',bm⟩:=info_parts uQ;have HS:=ae hs;obtain⟨a,cap,rfl,aX,bw,_⟩:=hs.form;obtain⟨D,hD⟩:∃ D,cT rs c=D:=⟨_,rfl⟩;have hDl:D.length=rs.length:=by rw[← hD,dp]
 have Mz:Hid (∀ k (h:k<rs.length),(aI rs[k])[c]?=some (de (rs[k].getD c nul))/\∃ h2:k<(aI D).length,(aI D)[k]=de (rs[k].getD c nul)):=ae (fun k h=>by
  have h3:=hc _ (ZV h);refine⟨by simp[aI,List.getD_eq_getElem?_getD,List.getElem?_eq_getElem h3],by rw[aF];omega,?_⟩;simp[aI,← hD,cT])
 rw[hD];have kF:=ae hDl;clear hs hD hDl hc;go_enter Tryz.func58,Tryz.ntmps58
 go_wp2_with (first | (refine wpList_make_full _ rfl _ _ 79 rfl w.heap.size 78 i0 .nilIface 1 Tryz.underlying79 hi ce hz1' .i64 .i64 _ _ rs.length rfl rfl ?m1 ?m2 ?m3 ?m4 ?m5 ?_))
 case m1=>rfl
 case m2=>rfl
 case m3=>rw[bm];omega
 case m4=>unfold maxLen;omega
 case m5=>omega
 intro w4 gD iL;have bv:Below w.heap.size w w4:=(ZQ _ _).grown iL (ZR _) (fun k hk=>by cases hk)
 have ho4':w4.ownsRow w.heap.size 78 1 (.slice (some ⟨w.heap.size,0,none⟩) rs.length rs.length) rs.length (dv .nilIface (aI D) 0):=by
  rw[mw,aF,kF.out,← toList_madeCells_one];simpa using gD
 have eP:=ae ho4';have b9:=ae bv;clear gD iL bv ho4';go_wp2_with fail;go_loopw [13] (fun i wr=>∃ k:Nat,i=.int .i64 (k:Int)/\k<=rs.length/\wr.ownsRow w.heap.size 78 1 (.slice (some ⟨w.heap.size,0,none⟩) rs.length rs.length) rs.length (dv .nilIface (aI D) k)/\Below w.heap.size w wr) (fun i _=>rs.length-(intOf i).toNat)
 case atStart=>exact⟨0,rfl,by omega,eP.out,b9.out⟩
 case round =>
  obtain⟨k,rfl,hk,how,ay⟩:=hrel;have HB:=ae ay;have HO:=ae how;have bO:=ay.size;clear ay how;by_cases aB:k<rs.length
  ·obtain⟨hval,hkD,Ke⟩:=Mz.out k aB
   obtain⟨b,off,rv,rfl,hb,dP,ib⟩:=(HS.out.kept HB.out).at aB;have Yj:=aF rs[k];obtain⟨ra,rcap,rfl,US,MG⟩:=ib.form1;obtain⟨b2,off2,rfl,aD,Hf⟩:=ib.at1 hval;have hclt:=(List.getElem?_eq_some_iff.1 hval).1;have hlt':(k:Int)<(rs.length:Int):=by omega
   have hclt':(c:Int)<((aI rs[k]).length:Int):=by omega
   have jM:k<(dv .nilIface (aI D) k).length:=by rw[ir (by omega)];exact hkD
   have hrc2':rcap<=9223372036854775807:=by unfold maxLen at MG;omega
   rcases wP (rs[k].getD c nul)with h0 | ⟨tt,uu,h0⟩
   all_goals rw[h0]at Hf Ke
   all_goals have sV:=ae (lU (z:=.nilIface) hkD)
   all_goals rw[Ke]at sV
   all_goals have fT:=HO.out
   all_goals have Eu:=(fT.cellAt k (by omega)).trans (List.getElem?_eq_getElem jM)
   all_goals have Ev:=fT.frozenAt k
   ·have hST:=fT.stored k .nilIface
    rw[sV.out]at hST;have cP:=ae hST;clear hST fT hval Ke ib h0 Yj;generalize (dv .nilIface (aI D) k)[k]=y at *;generalize (aI rs[k]).length=m at *;go_wp2_with fail;go_roundw
    case rel=>exact⟨k+1,by go_num,by omega,cP.out.1,cL HB.out (ZR _) _⟩
    case measure=>simp[intOf];omega
   ·have hST:=fT.stored k (.iface tt uu)
    rw[sV.out]at hST;have cP:=ae hST;clear hST fT hval Ke ib h0 Yj;generalize (dv .nilIface (aI D) k)[k]=y at *;generalize (aI rs[k]).length=m at *;go_wp2_with fail;go_roundw
    case rel=>exact⟨k+1,by go_num,by omega,cP.out.1,cL HB.out (ZR _) _⟩
    case measure=>simp[intOf];omega
  ·obtain rfl:k=rs.length:=by omega
   have e:dv .nilIface (aI D) rs.length=aI D:=by
    have:=oq .nilIface (aI D);rwa[aF,kF.out]at this
   rw[e]at HO
   have HO':Hid (OwnV wr w.heap.size (.slice (some ⟨w.heap.size,0,none⟩) rs.length rs.length) D):=ae (by
    unfold OwnV;rw[kF.out];exact HO.out)
   have gJ:¬ ((rs.length:Nat):Int)<(rs.length:Int):=by omega
   clear HO e;go_wp2_with fail;go_ret
   exact⟨⟨_,rfl,HO'.out⟩,HB.out⟩
theorem bY(g:Nat)(rs:List Row)(j:Nat):(prt g rs j).length=min (rs.length-j*g) g:=by
 unfold prt;rw[ZX,jai];omega
def jJ(fs:List Fd)(rs:List Row):Prop:=∀ r∈rs,jE fs r=0/\∀ c∈r,aU c
theorem jJ.part{fs:List Fd}{rs:List Row}(h:jJ fs rs)(g j:Nat):jJ fs (prt g rs j):=fun r hr=>h r (jbc (jaw hr))
theorem DK:∀{fs:List Fd} {r:Row} {k:Nat},qd fs r=0->r.length=fs.length->∀(h:k<fs.length) (h2:k<r.length),qc fs[k] r[k]=0
 | f::t,c::r,k,h,hl,h1,h2=>by
  unfold qd at h;by_cases hm:qc f c=0
  ·rw[if_pos hm]at h
   cases k with
   | zero=>exact hm
   | succ k=>exact DK (k:=k) h (by simpa using hl) (by simpa using h1) (by simpa using h2)
  ·rw[if_neg hm]at h
   exact absurd h hm
 | [],r,k,h,hl,h1,h2=>by simp at h1
 | f::t,[],k,h,hl,h1,h2=>by simp at h2
theorem Lz{f:Fd}{c:Cl}(h:qc f c=0):c.1=0∨c.1=f.2.2.1:=by
 unfold qc at h;by_cases h0:c.1=0
 ·exact Or.inl h0
 ·rw[if_neg h0]at h
  by_cases h1:c.1≠f.2.2.1
  ·rw[if_pos h1]at h
   cases h
  ·exact Or.inr (by omega)
theorem eV{fs:List Fd}{p:List Row}(h:jJ fs p)(hk:∀ f∈fs,1<=f.2.2.1/\f.2.2.1<=3)(hl:p.length<=256){k:Nat}(pd:k<fs.length):Col (lO fs k) (cT p k):=by
 rw[lP pd];refine⟨hk _ (ZV pd),by rw[dp];exact hl,fun c hc=>?_⟩;obtain⟨r,hr,rfl⟩:=jaa.1 hc;obtain⟨h1,h2⟩:=h r hr;have h3:=qg h1;have aB:k<r.length:=by omega
 rw[List.getD_eq_getElem?_getD,List.getElem?_eq_getElem aB]
 have hf:qd fs r=0:=by
  unfold jE at h1;rwa[if_neg (by omega)]at h1
 exact(h2 _ (ZV aB)).cellk (Lz (DK hf h3 pd aB))
theorem T5{k n:Nat}{l:List Cl}(hc:Col k l)(hn:l.length=n)(c b:List Nat):iq k n (em k l++c,uv (em k l).length++b,false)=(l,c,b,false):=by
 have hs:=(il hc).1;obtain⟨h1,h2,h3⟩:=pL (lo:=0) (hi:=(em k l++c).length) (n:=(em k l).length) (jav _) (by simp) (by omega) b;unfold iq;simp only[h1,h2,h3];rw[jaF,jas,← hn,Fm hc];rfl
theorem Qz{fs:List Fd}{p:List Row}{n:Nat}(dT:∀ k,k<fs.length->Col (lO fs k) (cT p k))(hn:p.length=n):∀{k:Nat},k<=fs.length->∀ c b:List Nat,
  grK fs n (eL fs p k++c,ftK fs p k++b,false) k=(fI n ((List.range k).map (cT p)),((List.range k).map fun i=>ct (cT p i)),(c,b,false)):=by
 intro k;induction k with
 | zero =>
  intro _ c b;show (List.replicate n ([]:Row),([]:List Stt),_)=_
  simp[wI,eL,ftK]
 | succ k ih =>
  intro hk c b;rw[qQ (by omega),lR,nz,Z4,Z4,Z4,ih (by omega)];have bQ:(cT p k).length=n:=by rw[dp];exact hn
  have hc:=dT k (by omega);rw[lP (by omega)]at hc;unfold grS;simp only[lP (show k<fs.length by omega)];rw[T5 hc bQ];simp only[TT];rw[wJ bQ,ja0,Z8,Z8];rfl
def grp(fs:List Fd)(p:List Row):Gr:=(p,(List.range fs.length).map fun i=>ct (cT p i))
theorem QA{fs:List Fd}{g:Nat}{rs:List Row}(hr:jJ fs rs)(hk:∀ f∈fs,1<=f.2.2.1/\f.2.2.1<=3)(hg:g<=64):∀(j:Nat) (c b:List Nat),
  fiJ fs g rs.length (ip fs g rs j++c,ftJ fs g rs j++b,false) j=((List.range j).map fun i=>grp fs (prt g rs i),(c,b,false)):=by
 intro j;induction j with
 | zero=>intro c b;rfl
 | succ j ih =>
  intro c b;have hp:=hr.part g j;have hl:=bY g rs j;have h1:=Qz (fs:=fs) (p:=prt g rs j) (fun k pd=>eV hp hk (by omega) pd) rfl (ZR _) c b;rw[hl]at h1
  have h0:fiJ fs g rs.length (ip fs g rs (j+1)++c,ftJ fs g rs (j+1)++b,false) j=((List.range j).map fun i=>grp fs (prt g rs i),(eL fs (prt g rs j) fs.length++c,ftK fs (prt g rs j) fs.length++b,false)):=by
   rw[sE,wF,Z4,Z4];exact ih _ _
  have jO:fI (min (rs.length-j*g) g) ((List.range fs.length).map (cT (prt g rs j)))=prt g rs j:=by
   rw[← hl];exact Di (fun r Bq=>qg (hp r Bq).1)
  show ((fiJ fs g rs.length _ j).1++[_],_)=_
  rw[h0];simp only;rw[h1,jO,ja0,Z8];rfl
theorem QB(g:Nat)(hg:0<g):nps g 0=0:=by
 unfold nps;rw[jaf,Nat.div_eq_of_lt (by omega)]
theorem ku{g n j:Nat}(hg:0<g):j<nps g n↔j*g<n:=by
 unfold nps;constructor
 ·intro h
  have h1:=(Nat.le_div_iff_mul_le hg).1 (show j+1<=(n+g-1) / g by omega);rw[jap]at h1;omega
 ·intro h
  have:j+1<=(n+g-1) / g:=(Nat.le_div_iff_mul_le hg).2 (by rw[jap];omega);omega
theorem zr{g:Nat}{rs:List Row}:∀ j:Nat,((List.range j).map (prt g rs)).flatten=rs.take (j*g)
 | 0=>by simp
 | j+1=>by
  rw[ja0,Z8,jbk,zr j];simp only[jal,jaG,ja3,List.flatten_nil,Z7];unfold prt;rw[jap,jaO,List.take_add]
theorem AU{g:Nat}(hg:0<g)(rs:List Row):(Ge g rs).flatten=rs:=by
 unfold Ge;rw[zr];apply jat
 have h:=(ku (n:=rs.length) (j:=nps g rs.length) hg);omega
theorem QC(fs:List Fd){g:Nat}(hg:0<g)(rs:List Row):bP ((List.range (nps g rs.length)).map fun i=>grp fs (prt g rs i))=rs:=by
 unfold bP;rw[jao];exact AU hg rs
theorem DL:∀{l a:List Fd},fe a l=0->∀ f∈l,1<=f.2.2.1/\f.2.2.1<=3
 | [],_,_=>fun f hf=>by simp at hf
 | f::t,a,h=>by
  unfold fe at h;by_cases hm:fW a f=0
  ·rw[if_pos hm]at h
   intro x hx;rcases Z6.1 hx with rfl | hx
   ·unfold fW at hm
    unfold kH at hm;simp only[decide_eq_false_iff_not]at hm;repeat' (split at hm)
    all_goals first | (cases hm;done) | omega
   ·exact DL h x hx
  ·rw[if_neg hm]at h
   exact absurd h hm
theorem gW{id:Nat}{l:List Fd}(h:chk id l=0):∀ f∈l,1<=f.2.2.1/\f.2.2.1<=3:=by
 unfold chk at h;split at h
 ·cases h
 ·exact DL h
theorem GA{id:Nat}{fs:List Fd}{rs:List Row}{g:Nat}(mR:id<4294967296)(ho:∀ f∈fs,Okf f)(hc:chk id fs=0)(hr:jJ fs rs)(hl:rs.length<=256)(eQ:1<=g)(gK:g<=64)
  (jq:(fV id fs rs g).length<4294967296):iI (lQ id fs rs g)=some (id,fs,g,(List.range (nps g rs.length)).map fun i=>grp fs (prt g rs i)):=by
 obtain⟨hrise,h0,h8,hi0⟩:=qf hc
 have hz:szs fs<5000:=by
  have lq:fe [] fs=0:=by
   unfold chk at hc;rw[if_neg (by omega)]at hc;exact hc
  have hn:=qh lq
  have:∀ m:List Fd,(∀ f∈m,f.2.1.size<=16)->szs m<=16*m.length:=by
   intro m;induction m with
   | nil=>intro _;simp[szs]
   | cons x t ih =>
    intro hx;have h1:=ih (fun f hf=>hx f (jaZ _ hf));have h2:=hx x (List.mem_cons_self ..);unfold szs at *;simp only[jal,List.sum_cons,ZW];omega
  have:=this fs hn;omega
 have bQ:(lQ id fs rs g).length-4=(ip fs g rs (nps g rs.length)++fV id fs rs g).length:=by
  unfold lQ;rw[ZT];simp[le4]
 have h4:¬ (lQ id fs rs g).length<4:=by
  unfold lQ;rw[ZT];simp[le4]
 have hd:(lQ id fs rs g).drop ((lQ id fs rs g).length-4)=le4 (fV id fs rs g).length:=by
  rw[bQ];unfold lQ;rw[jas]
 have ht:(lQ id fs rs g).take ((lQ id fs rs g).length-4)=ip fs g rs (nps g rs.length)++fV id fs rs g:=by
  rw[bQ];unfold lQ;rw[jaF]
 have Rh:leN (le4 (fV id fs rs g).length)=(fV id fs rs g).length:=AH jq
 have hcut:(lQ id fs rs g).length-4-(fV id fs rs g).length=(ip fs g rs (nps g rs.length)).length:=by
  rw[bQ,ZT];omega
 have Ux:(lQ id fs rs g).take (ip fs g rs (nps g rs.length)).length=ip fs g rs (nps g rs.length):=by
  unfold lQ;rw[Z4,jaF]
 unfold iI;rw[if_neg h4,hd,Rh,if_neg (by rw[bQ,ZT];omega),ht,hcut,jas,Ux]
 have hun:cY (fV id fs rs g)=.ok ((id,fs),uv rs.length++(uv g++ftJ fs g rs (nps g rs.length))):=by
  unfold fV;rw[Z4,Z4];have h1:=Cd mR ho hz (by omega) (uv rs.length++(uv g++ftJ fs g rs (nps g rs.length)));rw[if_pos hc]at h1;exact h1
 rw[hun];simp only;obtain⟨a1,a2,a3⟩:=pL (lo:=0) (hi:=256) (n:=rs.length) (jav _) hl (by omega) (uv g++ftJ fs g rs (nps g rs.length));obtain⟨b1,b2,b3⟩:=pL (lo:=1) (hi:=64) (n:=g) eQ gK (by omega) (ftJ fs g rs (nps g rs.length))
 have hrest:gV fs (ip fs g rs (nps g rs.length)) (uv rs.length++(uv g++ftJ fs g rs (nps g rs.length)))=((List.range (nps g rs.length)).map fun i=>grp fs (prt g rs i),([],[],false)):=by
  unfold gV;rw[a1,a2,a3,b1,b2,b3];have:=QA hr (gW hc) gK (nps g rs.length) [] [];rw[Z7,Z7]at this;exact this
 rw[hrest,a3,b2];rfl
open Go.Shelf
attribute [local go_sem] Oper.semAt_some
def zt(b off n g j:Nat):Value:=if j*g<n then .slice (some ⟨b,off+j*g,none⟩) (min g (n-j*g)) (min g (n-j*g)) else .slice none 0 0
def KC(p q:Nat)(A B:World):Prop:=B.heap[p]?=A.heap[p]?/\B.heap[q]?=A.heap[q]?
theorem KC.refl(p q:Nat)(A:World):KC p q A A:=⟨rfl,rfl⟩
theorem KC.trans{p q:Nat}{A B C:World}(h:KC p q A B)(k:KC p q B C):KC p q A C:=⟨k.1.trans h.1,k.2.trans h.2⟩
theorem KC.drewN{p q:Nat}{A B:World}(h:KC p q A B)(n:Nat):KC p q A (B.drewN n):=h
theorem KC.cells{p q:Nat}{A B:World}(h:KC p q A B):(∀ i,B.cell? ⟨p,i,none⟩=A.cell? ⟨p,i,none⟩)/\∀ i,B.cell? ⟨q,i,none⟩=A.cell? ⟨q,i,none⟩ :=
 ⟨fun i=>by simp only[World.cell?,h.1],fun i=>by simp only[World.cell?,h.2]⟩
theorem LA(m:Nat)(hm:1<=m)(l Bs Bn b off n cap g:Nat)(eQ:1<=g)(gK:g<=64)(hn:n<=256)(lp:n<=cap)(kx:cap<=9223372036854775807)(J Jx:List Nat->World->Prop)
  (hY:∀ pre x W,J pre W->pre.length<nps g n->YieldAt Fence.wide (m-1) Tryz.prog l #[zt b off n g x] W fun e W' =>
   (e=.returned (.bool true)/\J (pre++[x]) W'/\KC Bs Bn W W')∨(e=.returned (.bool false)/\Jx (pre++[x]) W'))
  (hJd:∀ pre W k,J pre W->J pre (World.drewN W k))
  (W:World) (hBs:W.cell? ⟨Bs,0,none⟩=some (.slice (some ⟨b,off,none⟩) n cap)) (hBn:W.cell? ⟨Bn,0,none⟩=some (.int .i64 (g:Int))) (h0:J [] W) :
  CallsIn Fence.wide m Tryz.prog 121 #[.func (.yield l) #[] #[],.pointer (some ⟨Bs,0,none⟩),.pointer (some ⟨Bn,0,none⟩)] W fun e W'=>(∃ v,e=.returned v) /\
   ((∃ ys,ys=List.range (nps g n)/\J ys W')∨(∃ pre,(∃ k,pre=List.range k)/\Jx pre W')):=by
 refine callsIn_of_wp Tryz.func121 rfl trivial ?_ rfl;simp only[Tryz.ntmps121,List.size_toArray,ZW,jad,Nat.reduceAdd,Nat.reduceSub,Array.replicate_succ,Array.replicate_zero,List.push_toArray,List.append_toArray,jaH,jaz];have S1:Hid (∀ k,k<nps g n↔k*g<n):=ae (fun k=>ku (by omega));gi_wp2
 gi_loopw [4] (fun i wr=>∃ k:Nat,k<=nps g n/\i=.int .i64 ((k*g:Nat):Int)/\J (List.range k) wr/\KC Bs Bn W wr)
  (fun i _=>n+64-(intOf i).toNat)
 case atStart=>exact⟨0,jav _,by simp,h0,KC.refl _ _ _⟩
 case round =>
  obtain⟨k,hk,rfl,hJs,xv⟩:=hrel;have Yk:=ae hJs;have mV:=ae xv;have Hf:wr.cell? ⟨Bs,0,none⟩=some (.slice (some ⟨b,off,none⟩) n cap):=(xv.cells.1 0).trans hBs;have EA:wr.cell? ⟨Bn,0,none⟩=some (.int .i64 (g:Int)):=(xv.cells.2 0).trans hBn;have mP:Hid (∀ W',KC Bs Bn wr W'->W'.cell? ⟨Bn,0,none⟩=some (.int .i64 (g:Int))):=ae (fun W' h=>(h.cells.2 0).trans EA);have HJD:=ae hJd;clear hJs xv hJd;by_cases aB:k*g<n
  ·have EO:k<nps g n:=(S1.out k).2 aB
   have ZB:Hid (k+1<=nps g n/\(k+1)*g=k*g+g):=ae ⟨EO,by rw[jap,jaO]⟩;have HY:=ae (fun q=>hY _ k _ (HJD.out _ wr q Yk.out) (by simpa using EO));have HP:Hid (zt b off n g k=.slice (some ⟨b,off+k*g,none⟩) (min g (n-k*g)) (min g (n-k*g))):=ae (by unfold zt;rw[if_pos aB]);have Yl:Hid (List.range (k+1)=List.range k++[k]):=ae ja0;have hkg:k*g<=256:=by omega
   clear hY EO hk;generalize hi:k*g=i at *;have h1:(0:Int)<=(i:Int):=by omega
   have h2:(i:Int)<=(n:Int):=by omega
   have h3:(i:Int)<=(cap:Int):=by omega
   have h4:(i:Int).toNat=i:=by omega
   have hlt':(i:Int)<(n:Int):=by omega
   have hE:min (g:Int) ((n-i:Nat):Int)=((min g (n-i):Nat):Int):=by omega
   have hE1:1<=min g (n-i):=by omega
   have hE2:min g (n-i)<=n-i:=by omega
   gi_wp2
   gi_quiet (fail)
   clear hE;generalize min g (n-i)=E at *;obtain⟨fn,tmps,assign,body,hy,hR⟩:=HY.out nq;rw[HP.out]at hy;have HR:=ae hR;clear hR HY HP;have hcs2:(wr.drewN nq).cell? ⟨Bs,0,none⟩=some (.slice (some ⟨b,off,none⟩) n cap):=Hf;have h5:(i:Int)+(E:Int)<=(cap:Int):=by omega
   have h6:(i:Int)<=(i:Int)+(E:Int):=by omega
   have h7:IntKind.i64.wrap ((i:Int)+(E:Int))=(i:Int)+(E:Int):=by rw[jam];omega
   have h8:((i:Int)+(E:Int)).toNat=i+E:=by omega
   have h9:(0:Int)<=(i:Int)+(E:Int):=by omega
   have mY:¬ E=0:=by omega
   gi_wp2
   refine HR.out.mono ?_;rintro e W3 (⟨rfl,hJ3,Kb⟩ | ⟨rfl,hJx3⟩)
   ·have hcn3:=mP.out _ (((KC.refl Bs Bn wr).drewN nq).trans Kb)
    have HJ3:=ae hJ3;have HK3:=ae Kb;clear hJ3 Kb Hf EA hcs2;gi_wp2
    go_roundw
    case rel=>exact⟨k+1,ZB.out.1,by rw[ZB.out.2];go_num,by rw[Yl.out];exact HJ3.out,(mV.out.drewN nq).trans HK3.out⟩
    case measure=>simp[intOf];omega
   ·gi_wp2
    refine bodyPost_ret (results_none rfl _ _ _) rfl ?_;exact⟨⟨_,rfl⟩,.inr ⟨_,⟨k+1,Yl.out.symm⟩,hJx3⟩⟩
  ·have EP:k=nps g n:=by
    have:=S1.out k;omega
   subst EP;have hlt':¬ (((nps g n*g:Nat)):Int)<(n:Int):=by omega
   clear S1 aB hk;generalize nps g n*g=q at *;gi_wp2
   go_end0
   exact⟨⟨_,rfl⟩,.inl Yk.out⟩
theorem LC(a:Option Addr)(n cap g:Nat)(hg:1<=g)(w:World) :
  Calls Tryz.prog 82 #[.slice a n cap,.int .i64 (g:Int)] w fun e w'=>e=.returned (.func (.func 121) #[] #[.pointer (some ⟨w.heap.size,0,none⟩),.pointer (some ⟨w.heap.size+1,0,none⟩)])/\w'=(w.alloc (.cells #[.slice a n cap] 34)).alloc (.cells #[.int .i64 (g:Int)] 3):=by
 have aB:¬ (g:Int)<1:=by omega
 go_enter Tryz.func82,Tryz.ntmps82
 go_wp2_with fail;go_ret
 simp
theorem Rv.part{W:World}{b off cap g:Nat}{rs:List Row}(h:Rv W (.slice (some ⟨b,off,none⟩) rs.length cap) rs)(hl:rs.length<=256)(j:Nat):Rv W (zt b off rs.length g j) (prt g rs j):=by
 obtain⟨a',cap',e,h1,h2,h3,h4⟩:=h;simp only[Value.slice.injEq]at e;obtain⟨rfl,_,rfl⟩:=e;have kD:=bY g rs j;unfold zt;by_cases aB:j*g<rs.length
 ·rw[if_pos aB]
  obtain⟨b',off',e,h5,h6⟩:=h4 (by omega);cases e
  refine⟨some ⟨b,off+j*g,none⟩,min g (rs.length-j*g),by rw[kD,Nat.min_comm],by rw[kD,Nat.min_comm];exact ZR _,by unfold maxLen;omega,fun h=>(by cases h),fun h0=>⟨b,off+j*g,rfl,h5,fun k hk=>?_⟩⟩;rw[kD]at hk;obtain⟨rv,h7,h8⟩:=h6 (j*g+k) (by omega);refine⟨rv,by rw[jaQ];exact h7,?_⟩;have:(prt g rs j)[k]'(by rw[kD];exact hk)=rs[j*g+k]'(by omega):=by simp[prt]
  rw[this];exact h8
 ·rw[if_neg aB]
  have:prt g rs j=[]:=jab (by rw[kD];omega);rw[this];exact Rv.nil W
end Go.Proofs.YtpljdjmpamjkhaaGreatDoor
