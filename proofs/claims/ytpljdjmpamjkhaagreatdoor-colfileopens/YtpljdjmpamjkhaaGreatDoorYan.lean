import Derived.Test.YtpljdjmpamjkhaaGreatDoorYam
import Derived.Deep.AppendLies
import Derived.Deep.RegionHeld3
set_option linter.unusedVariables false
set_option linter.unusedSimpArgs false
set_option maxRecDepth 100000
set_option maxHeartbeats 8000000
namespace Go.Proofs.YtpljdjmpamjkhaaGreatDoor
open Go.RowKit Go.Lib
theorem da(w:World)(o:Obj):Below w.heap.size w (w.alloc o):=(ZQ _ _).alloc (ZR _) _
theorem CY{x:Int}:∀{u:List Int} {k:Nat} (h:k<u.length),(∀ j (hj:j<k),u[j]'(by omega)≠x)->u[k]=x->pl u x=k
 | y::t,0,_,_,h=>by
  unfold pl;rw[if_pos (by simpa using h)]
 | y::t,k+1,hk,ha,h=>by
  have h0:=ha 0 (by omega);unfold pl;rw[if_neg (by simpa using h0),CY (u:=t) (k:=k) (by simpa using hk) (fun j hj=>by have:=ha (j+1) (by omega);simpa using this) (by simpa using h)]
theorem FE{w:World}{v:Value}{u:List Int}(hs:Sv w v (aJ u))(hl:u.length<=256)(x:Int)(hx:x∈u) :
  Calls Tryz.prog 177 #[v,.int .i64 x] w fun e w'=>e=.returned (.int .u64 (pl u x:Int))/\w'=w:=by
 have HS:=ae hs;have kD:=u5 hx;have HP:=ae kD;obtain⟨a,cap,rfl,aX,bw⟩:=hs.form;have HF:Hid (∀ k (h:k<u.length),(∀ j (hj:j<k),u[j]'(by omega)≠x)->u[k]=x->pl u x=k):=fun k h h1 h2=>CY h h1 h2
 clear hs aX bw kD hx;go_enter Tryz.func177,Tryz.ntmps177
 go_wp2_with fail;go_loopw [5] (fun i wr=>wr=w/\∃ k:Nat,k<=u.length/\i=.int .i64 (k:Int)/\∀ j (hj:j<k) (h:j<u.length),u[j]≠x) (fun i _=>u.length-(intOf i).toNat)
 case atStart=>exact⟨rfl,0,by omega,rfl,fun j h=>by omega⟩
 case round =>
  obtain⟨rfl,k,hk,rfl,cU⟩:=hrel;have HL:=ae cU;clear cU;by_cases aB:k<u.length
  ·have mF:(k:Int)<(u.length:Int):=by omega
   obtain⟨b,off,rfl,_,dP⟩:=HS.out.at aB;by_cases he:(u[k]==x)=true
   ·have HE:=ae (HF.out k aB (fun j hj=>HL.out j hj (by omega)) (by simpa using he))
    generalize u[k]=y at *;go_wp2_with fail;go_ret
    rw[HE.out];exact⟨rfl,rfl⟩
   ·have hef:(u[k]==x)=false:=by simpa using he
    have HN:Hid (∀ j (hj:j<k+1) (h:j<u.length),u[j]≠x):=by
     intro j hj h;rcases jae j k with h1 | h1
     ·exact HL.out j h1 h
     ·have:j=k:=by omega
      subst this;simpa using he
    clear he;generalize u[k]=y at *;go_wp2_with fail;go_roundw
    case rel=>exact⟨trivial,k+1,by omega,by go_num,HN.out⟩
    case measure=>simp[intOf];omega
  ·exfalso
   obtain⟨h1,h2⟩:=HP.out;rw[List.getElem?_eq_getElem h1]at h2;exact HL.out (pl u x) (by omega) h1 (Option.some.inj h2)
def kQ(x:Int)(u pre:List Int)(d:Bool)(k:Nat):Prop:=pre++(if d then u.drop k else ins x (u.drop k))=ins x u
theorem kQ.step{x:Int}{u pre:List Int}{d:Bool}{k:Nat}(h:kQ x u pre d k)(hk:k<u.length) :
  (d=true->kQ x u (pre++[u[k]]) true (k+1))/\(d=false->u[k]=x->kQ x u (pre++[u[k]]) true (k+1))/\(d=false->x<u[k]->kQ x u ((pre++[x])++[u[k]]) true (k+1))/\(d=false->u[k]≠x->¬ x<u[k]->kQ x u (pre++[u[k]]) false (k+1)):=by
 unfold kQ at *;rw[jar hk]at h;refine⟨fun hd=>?_,fun hd he=>?_,fun hd he=>?_,fun hd he hn=>?_⟩
 ·subst hd
  rw[if_pos rfl]at h ⊢;rw[← h];simp
 ·subst hd
  rw[if_neg (by simp),ins,if_pos he.symm]at h;rw[if_pos rfl,← h];simp
 ·subst hd
  rw[if_neg (by simp),ins,if_neg (by omega),if_pos he]at h;rw[if_pos rfl,← h];simp
 ·subst hd
  rw[if_neg (by simp),ins,if_neg (fun e=>he e.symm),if_neg hn]at h;rw[if_neg (by simp),← h];simp
theorem kQ.last{x:Int}{u pre:List Int}{d:Bool}(h:kQ x u pre d u.length):(d=true->pre=ins x u)/\(d=false->pre++[x]=ins x u):=by
 unfold kQ at h;rw[jaE]at h;refine⟨fun hd=>?_,fun hd=>?_⟩
 ·subst hd
  simpa using h
 ·subst hd
  simpa [ins]using h
theorem kQ.len{x:Int}{u pre:List Int}{d:Bool}{k:Nat}(h:kQ x u pre d k):pre.length<=u.length+1:=by
 unfold kQ at h;have h1:=congrArg List.length h;have h2:=pu (x:=x) (u:=u);rw[ZT]at h1;omega
theorem vV{w:World}{v:Value}{l:List Int}(hs:Sv w v (aJ l))(hl:l.length<=256) :
  Calls Tryz.prog 176 #[v] w fun e w'=>(∃ v',e=.returned v'/\br w' w.heap.size v' (cE l))/\Below w.heap.size w w':=by
 have HS:=ae hs;obtain⟨a,cap,rfl,aX,bw⟩:=hs.form;clear hs aX bw;go_enter Tryz.func176,Tryz.ntmps176
 go_wp2_with fail;go_loopw [3,4] (fun vo i wr=>∃ k:Nat,k<=l.length/\i=.int .i64 (k:Int)/\br wr w.heap.size vo (cE (l.take k))/\Below w.heap.size w wr) (fun _ i _=>l.length-(intOf i).toNat)
 case atStart=>exact⟨0,by omega,rfl,br.nil _ _,ZQ _ _⟩
 case round =>
  obtain⟨i,hi,rfl,how,ay⟩:=hrel;have HO:=ae how;have HB:=ae ay;have bO:=ay.size;obtain⟨ao,co,rfl⟩:=how.len;clear how ay;by_cases aB:i<l.length
  ·have mF:(i:Int)<(l.length:Int):=by omega
   have HU:=ae (uZ aB);have uj:=fD (l.take i);rw[ZX]at uj;obtain⟨bl,offl,rfl,fM,eO⟩:=(HS.out.kept HB.out).at aB;generalize l[i]=x at *;generalize cE (l.take i)=u at *;have Rr:u.length<=256:=by omega
   generalize wr=W1 at *;go_wp2_with fail;go_loopw [5,6,7] (fun vn vd j wq=>∃(k:Nat) (pre:List Int) (d:Bool),k<=u.length/\j=.int .i64 (k:Int)/\vd=.bool d/\br wq W1.heap.size vn pre/\kQ x u pre d k/\Below W1.heap.size W1 wq) (fun _ _ j _=>u.length-(intOf j).toNat)
   case atStart=>exact⟨0,[],false,by omega,rfl,rfl,br.nil _ _,rfl,ZQ _ _⟩
   case round =>
    obtain⟨k,pre,d,hk,rfl,rfl,XS,XT,ur⟩:=hrel;have zH:=ae XS;have XU:=ae XT;have oJ:=ae ur;have yg:=ur.size;have kD:=XT.len;obtain⟨an,cn,rfl⟩:=XS.len;clear XS XT ur;have eW:Hid (∀ n z,Below W1.heap.size W1 ((wr.drewN n).alloc (.cells #[.int .i64 z] 2))):=fun n z=>(below_drewN oJ.out n).alloc yg _
    have Hs:Hid (∀ n z,W1.heap.size<=((wr.drewN n).alloc (.cells #[.int .i64 z] 2)).heap.size):=fun n z=>by rw[ZS];exact Nat.le_succ_of_le yg
    have m6:Hid (∀ n z,br ((wr.drewN n).alloc (.cells #[.int .i64 z] 2)) W1.heap.size (.slice an pre.length cn) pre):=fun n z=>(zH.out.kept (below_drewN (ZQ _ _) n)).kept (da _ _)
    by_cases pd:k<u.length
    ·have XV:(k:Int)<(u.length:Int):=by omega
     obtain⟨b2,off2,zI,aD,Ey⟩:=HO.out.sv.at pd;cases zI
     have kx:=(oJ.out.cell (p:=⟨b2,off2+k,none⟩) aD).trans Ey;have XW:=(oJ.out.cell (p:=⟨bl,offl+i,none⟩) fM).trans eO;have HSt:=ae (XU.out.step pd);have XX:=ae Ey;clear XU Ey;generalize u[k]=y at *;cases d with
     | true =>
      have rG:=ae (HSt.out.1 rfl);by_cases Ht:(y==x)=true
      ·go_wp2_with fail
       go_quiet (fail)
       go_wp2_with fail;go_quiet (fail)
       go_wp2_with (first | (at_builtin;refine aW rfl _ _ rfl W1.heap.size _ _ y pre rfl (m6.out _ y) rfl (aK _ _ _) ?c2 ?c3 ?_))
       case c2=>omega
       case c3=>first | omega | exact Hs.out _ _
       intro v7 w7 o7 b7;have iw:=ae o7;have ia:=ae ((eW.out _ y).trans b7);clear o7 b7;go_wp2_with fail;go_roundw
       case rel=>exact⟨k+1,_,true,by omega,by go_num,rfl,iw.out,rG.out,ia.out⟩
       case measure=>simp[intOf];omega
      ·have XY:(y==x)=false:=by simpa using Ht
       clear Ht;go_wp2_with fail;go_quiet (fail)
       go_wp2_with fail;go_quiet (fail)
       go_wp2_with (first | (at_builtin;refine aW rfl _ _ rfl W1.heap.size _ _ y pre rfl (m6.out _ y) rfl (aK _ _ _) ?c2 ?c3 ?_))
       case c2=>omega
       case c3=>first | omega | exact Hs.out _ _
       intro v7 w7 o7 b7;have iw:=ae o7;have ia:=ae ((eW.out _ y).trans b7);clear o7 b7;go_wp2_with fail;go_roundw
       case rel=>exact⟨k+1,_,true,by omega,by go_num,rfl,iw.out,rG.out,ia.out⟩
       case measure=>simp[intOf];omega
     | false =>
      by_cases Ht:(y==x)=true
      ·have rG:=ae (HSt.out.2.1 rfl (by simpa using Ht))
       go_wp2_with fail;go_quiet (fail)
       go_wp2_with fail;go_quiet (fail)
       go_wp2_with (first | (at_builtin;refine aW rfl _ _ rfl W1.heap.size _ _ y pre rfl (m6.out _ y) rfl (aK _ _ _) ?c2 ?c3 ?_))
       case c2=>omega
       case c3=>first | omega | exact Hs.out _ _
       intro v7 w7 o7 b7;have iw:=ae o7;have ia:=ae ((eW.out _ y).trans b7);clear o7 b7;go_wp2_with fail;go_roundw
       case rel=>exact⟨k+1,_,true,by omega,by go_num,rfl,iw.out,rG.out,ia.out⟩
       case measure=>simp[intOf];omega
      ·have XY:(y==x)=false:=by simpa using Ht
       have Hu:y≠x:=by simpa using Ht
       clear Ht;by_cases BK:x<y
       ·have XZ:decide (x<y)=true:=decide_eq_true BK
        have rG:=ae (HSt.out.2.2.1 rfl BK);clear Hu;go_wp2_with fail;go_quiet (fail)
        go_wp2_with fail;go_quiet (fail)
        go_wp2_with (first | (at_builtin;refine aW rfl _ _ rfl W1.heap.size _ _ x pre rfl (m6.out _ x) rfl (aK _ _ _) ?c2 ?c3 ?_))
        case c2=>omega
        case c3=>first | omega | exact Hs.out _ _
        intro v6 w6 o6 b6;have mU:=ae o6;have i5:=ae ((eW.out _ x).trans b6);have hc6:=(i5.out.cell (p:=⟨b2,off2+k,none⟩) aD).trans XX.out;have Ew:=i5.out.size;have zM:=ae (o6.kept (da w6 (.cells #[.int .i64 y] 2)));clear o6 b6;go_wp2_with (first | (at_builtin;refine aW rfl _ _ rfl W1.heap.size _ _ y (pre++[x]) rfl zM.out rfl (aK _ _ _) ?c2 ?c3 ?_))
        case c2=>simp;omega
        case c3=>first | omega | (rw[ZS];omega)
        intro v7 w7 o7 b7;have o7':br w7 W1.heap.size v7 (pre++[x]++[y]):=by simpa using o7
        have iw:=ae o7';have ia:=ae ((i5.out.alloc Ew (.cells #[.int .i64 y] 2)).trans b7);clear o7 o7' b7;go_wp2_with fail;go_roundw
        case rel=>exact⟨k+1,_,true,by omega,by go_num,rfl,iw.out,rG.out,ia.out⟩
        case measure=>simp[intOf];omega
       ·have XZ:decide (x<y)=false:=decide_eq_false BK
        have rG:=ae (HSt.out.2.2.2 rfl Hu BK);clear Hu;go_wp2_with fail;go_quiet (fail)
        go_wp2_with fail;go_quiet (fail)
        go_wp2_with (first | (at_builtin;refine aW rfl _ _ rfl W1.heap.size _ _ y pre rfl (m6.out _ y) rfl (aK _ _ _) ?c2 ?c3 ?_))
        case c2=>omega
        case c3=>first | omega | exact Hs.out _ _
        intro v7 w7 o7 b7;have iw:=ae o7;have ia:=ae ((eW.out _ y).trans b7);clear o7 b7;go_wp2_with fail;go_roundw
        case rel=>exact⟨k+1,_,false,by omega,by go_num,rfl,iw.out,rG.out,ia.out⟩
        case measure=>simp[intOf];omega
    ·obtain rfl:k=u.length:=by omega
     have XV:¬ (u.length:Int)<(u.length:Int):=by omega
     have MX:=ae XU.out.last;cases d with
     | true =>
      have e:=MX.out.1 rfl;have X0:Hid (br wr w.heap.size (.slice an pre.length cn) (cE (l.take (i+1)))):=ae (by rw[HU.out,← e];exact zH.out.low bO);clear e;go_wp2_with fail;go_roundw
      case rel=>exact⟨i+1,by omega,by go_num,X0.out,HB.out.trans (oJ.out.mono bO)⟩
      case measure=>simp[intOf];omega
     | false =>
      have HE:=ae (MX.out.2 rfl);have XW:=(oJ.out.cell (p:=⟨bl,offl+i,none⟩) fM).trans eO;have yi:=ae (zH.out.kept (da wr (.cells #[.int .i64 x] 2)));have yj:=ae (oJ.out.alloc yg (.cells #[.int .i64 x] 2));go_wp2_with (first | (at_builtin;refine aW rfl _ _ rfl W1.heap.size _ _ x pre rfl yi.out rfl (aK _ _ _) ?c2 ?c3 ?_))
      case c2=>omega
      case c3=>first | omega | (rw[ZS];omega)
      intro v7 w7 o7 b7;have iw:Hid (br w7 w.heap.size v7 (cE (l.take (i+1)))):=ae (by rw[HU.out,← HE.out];exact o7.low bO);have ia:=ae (HB.out.trans ((yj.out.trans b7).mono bO));clear o7 b7;go_wp2_with fail;go_roundw
      case rel=>exact⟨i+1,by omega,by go_num,iw.out,ia.out⟩
      case measure=>simp[intOf];omega
  ·obtain rfl:i=l.length:=by omega
   have mF:¬ (l.length:Int)<(l.length:Int):=by omega
   rw[ZY]at HO;go_wp2_with fail;go_ret
   exact⟨⟨_,rfl,HO.out⟩,HB.out⟩
def mt(bs:List Nat)(w:World)(e:Ending)(w':World):Prop:=(∃ v',e=.returned (.tuple #[v',.bool true])/\aC w' w.heap.size v' bs)/\Below w.heap.size w w'
theorem oT{w:World}{ops:Array Oper}{o:Oper}{a:Act}{K:Act->World->Prop}{Q:Exit->Act->World->Prop}{E:Prop}(ee:o.guard=none)(s x:Operand)
  (ho:o.op=.call { callee:=.builtin .append,args:=#[s,x],argTypes:=#[30,30] })
  (base B2:Nat) (v vx:Value) (l0 l:List Nat) (hs:a.eval s=v) (az:aC w base v l0) (hx:a.eval x=vx) (fo:aC w B2 vx l) (hp:0<l.length)
  (hbytes:l0.length+l.length<=100000) (aH:base<=w.heap.size)
  (h:∀ v' w',aC w' base v' (l0++l)->Below base w w'->K (a.put o.dst v') w') :
  if Region.wanted o (yielded ops a.tmps)=true then Oper.wp Tryz.prog o a w K Q else E:=by
 obtain⟨i0,hi,ce,hz1',bm⟩:=info_parts jf;obtain⟨g,cap,rfl,hB,hg⟩:=n0 fo hp;have hc:∀ j u,(aE .u8 l)[j]?=some u->w.cell? ((⟨g,0,none⟩:Addr).add j)=some u:=fun j u hj=>fo.cells (g:=g) rfl j u hj
 unfold aC at az;refine step_append_lies (P:=Tryz.prog) w ee s x 30 ho base 5 i0 (.int .u8 0) 1 1 Tryz.underlying30 hi ce hz1' bm rfl (by decide) v l0.length (aE .u8 l0) hs az ⟨g,0,none⟩ l.length cap (aE .u8 l) hx (by rw[ap];omega) hc (fP _ _) hp (by unfold maxLen;omega) (by omega) aH _ rfl ?_;intro g' cap' w' o1 g1 _ _;refine h _ w' ?_ ((ZQ base w).grown g1 aH (fun k hk=>(az.lt k hk).1));unfold aC;rw[bZ,ZT];exact o1
theorem CZ{w:World}{v:Value}{l:List Int}(hs:Sv w v (aJ l))(hl:l.length<=256)(hi:Is l) :
  Calls Tryz.prog 135 #[.int .i64 0,v] w (mt (ge l) w):=by
 have HI:=ae hi;have HS:=ae hs;obtain⟨a,cap,rfl,aX,bw⟩:=hs.form;have uF:¬ (l.length:Int) > 256:=by omega
 clear hs hi aX bw;go_enter Tryz.func135,Tryz.ntmps135
 go_wp2_with fail;go_loopw [6,7] (fun b i wr=>∃ k:Nat,k<=l.length/\i=.int .i64 (k:Int)/\aC wr w.heap.size b (ge (l.take k))/\Below w.heap.size w wr) (fun _ i _=>l.length-(intOf i).toNat)
 case atStart=>exact⟨0,by omega,rfl,aC.nil _ _,ZQ _ _⟩
 case round =>
  obtain⟨k,hk,rfl,az,ay⟩:=hrel;have HO:=ae az;have HB:=ae ay;have bO:=ay.size;clear az ay;by_cases aB:k<l.length
  ·have mF:(k:Int)<(l.length:Int):=by omega
   obtain⟨b,off,rfl,hb,dP⟩:=(HS.out.kept HB.out).at aB;have HX:=ae (HI.out.get aB);have HT:=ae (yO aB);have jq:=(lH (HI.out.take k)).1;rw[ZX]at jq;have Ep:=fd (HI.out.get aB);generalize l[k]=x at *;generalize ge (l.take k)=acc at *;go_wp2_with fail;refine(di HX.out _).mono ?_;rintro e w2 ⟨⟨v2,rfl,cx⟩,aD⟩;have dr:=ae cx;have HOk:=ae (HO.out.kept aD);have aN:=ae (HB.out.trans (aD.mono bO));have bm:=aD.size;clear cx aD;go_wp2_with (first | (at_builtin;refine ar rfl _ _ rfl w.heap.size _ _ acc (wv x) rfl HOk.out rfl dr.out.sv ?c1 ?c2 ?_))
   case c1=>omega
   case c2=>omega
   intro v3 w3 o3 b3;have cX:=ae o3;have bM:=ae (aN.out.trans b3);clear o3 b3;go_wp2_with fail;go_roundw
   case rel=>exact⟨k+1,by omega,by go_num,by rw[HT.out];exact cX.out,bM.out⟩
   case measure=>simp[intOf];omega
  ·obtain rfl:k=l.length:=by omega
   have mF:¬ (l.length:Int)<(l.length:Int):=by omega
   rw[ZY]at HO;go_wp2_with fail;go_ret2
   exact⟨⟨_,rfl,HO.out⟩,HB.out⟩
theorem C0{w:World}{v:Value}{l:List Int}(hs:Sv w v (aJ l))(hl:l.length<=256)(hi:Is l) :
  Calls Tryz.prog 135 #[.int .i64 1,v] w (mt (iC 0 l) w):=by
 have HI:=ae hi;have HS:=ae hs;obtain⟨a,cap,rfl,aX,bw⟩:=hs.form;have uF:¬ (l.length:Int) > 256:=by omega
 clear hs hi aX bw;go_enter Tryz.func135,Tryz.ntmps135
 go_wp2_with fail;go_loopw [6,8] (fun b i wr=>∃ k:Nat,k<=l.length/\i=.int .i64 (k:Int)/\aC wr w.heap.size b (iC 0 (l.take k))/\Below w.heap.size w wr) (fun _ i _=>l.length-(intOf i).toNat)
 case atStart=>exact⟨0,by omega,rfl,aC.nil _ _,ZQ _ _⟩
 case round =>
  obtain⟨k,hk,rfl,az,ay⟩:=hrel;have HO:=ae az;have HB:=ae ay;have bO:=ay.size;clear az ay;by_cases aB:k<l.length
  ·have mF:(k:Int)<(l.length:Int):=by omega
   obtain⟨b,off,rfl,hb,Bt⟩:=HS.out.at aB;have dP:=(HB.out.cell (p:=⟨b,off+k,none⟩) hb).trans Bt;clear Bt;have HX:=ae (i9 (l[k]-ahd l k));have HT:=ae (yQ aB);have jq:=(nT (l:=l.take k) (last:=0)).1;rw[ZX]at jq;have Ep:=fd (i9 (l[k]-ahd l k));have sT:=WD (w64 (l[k]-ahd l k));cases k with
   | zero =>
    have e0:w64 (l[0]-ahd l 0)=l[0]:=by
     unfold ahd;rw[if_pos rfl,Int.sub_zero,NF (HI.out.get aB)]
    rw[e0]at HX HT Ep sT;rw[jaC]at dP;clear e0;generalize iC 0 (l.take 0)=acc at *;generalize l[0]=x at *;go_wp2_with fail;refine(di HX.out _).mono ?_;rintro e w2 ⟨⟨v2,rfl,cx⟩,aD⟩;have dr:=ae cx;have HOk:=ae (HO.out.kept aD);have aN:=ae (HB.out.trans (aD.mono bO));have bm:=aD.size;clear cx aD;go_wp2_with (first | (at_builtin;refine ar rfl _ _ rfl w.heap.size _ _ acc (wv x) rfl HOk.out rfl dr.out.sv ?c1 ?c2 ?_))
    case c1=>omega
    case c2=>omega
    intro v3 w3 o3 b3;have cX:=ae o3;have bM:=ae (aN.out.trans b3);clear o3 b3;go_wp2_with fail;go_roundw
    case rel=>exact⟨1,by omega,by go_num,by rw[HT.out];exact cX.out,bM.out⟩
    case measure=>simp[intOf];omega
   | succ k =>
    obtain⟨b',off',zI,_,UE⟩:=(HS.out.kept HB.out).at (show k<l.length by omega);cases zI
    rw[CO (show k<l.length by omega)]at HX HT Ep sT;have h1:=HI.out.get aB;have h2:=HI.out.get (show k<l.length by omega);have pY:(((k+1:Nat):Int)==0)=false:=Z1.2 (by omega);have p9:((k+1:Nat):Int)-1=(k:Int):=by omega
    have hj1:(0:Int)<=(k:Int)+1:=by omega
    have MS:(k:Int)+1<(l.length:Int):=by omega
    have hj3:((k:Int)+1).toNat=k+1:=by omega
    have hj4:(0:Int)<=(k:Int):=by omega
    have hj5:(k:Int)<(l.length:Int):=by omega
    have hj6:IntKind.i64.wrap ((k:Int)+1-1)=(k:Int):=by rw[jam];omega
    have hj7:(k:Int)+1-1=(k:Int):=by omega
    have MT:IntKind.i64.wrap (k:Int)=(k:Int):=by rw[jam];omega
    obtain⟨X,hX⟩:∃ X,IntKind.u64.wrap l[k+1]=X:=⟨_,rfl⟩;obtain⟨Y,hY⟩:∃ Y,IntKind.u64.wrap l[k]=Y:=⟨_,rfl⟩;obtain⟨Z,hZ⟩:∃ Z,IntKind.u64.wrap (X-Y)=Z:=⟨_,rfl⟩
    have hD:IntKind.i64.wrap Z=w64 (l[k+1]-l[k]):=by
     rw[← hZ,← hX,← hY,← qE,jam,jam,jag,jag,jag];omega
    clear h1 h2;generalize l[k+1]=x at *;generalize l[k]=y at *;generalize iC 0 (l.take (k+1))=acc at *;generalize w64 (x-y)=d at *
    have ei:Hid (∀ n W',Below wr.heap.size (wr.drewN n) W'->W'.cell? ⟨b,off+(k+1),none⟩=some (.int .i64 x)/\W'.cell? ⟨b,off+k,none⟩=some (.int .i64 y)/\aC W' w.heap.size u6 acc/\Below w.heap.size w W'/\w.heap.size<=W'.heap.size):=ae (fun n W' h=>by
     have hb':Below wr.heap.size wr W':=(below_drewN (ZQ _ _) n).trans h;have kY:=HB.out.trans (hb'.mono bO);exact⟨(hb'.cell (p:=⟨b,off+(k+1),none⟩) (Z9 hb bO)).trans dP,(hb'.cell (p:=⟨b,off+k,none⟩) (Z9 hb bO)).trans UE,HO.out.kept hb',kY,kY.size⟩)
    go_wp2_with fail
    go_region_held3 (fun w'=>w'.cell? ⟨b,off+(k+1),none⟩=some (.int .i64 x)/\w'.cell? ⟨b,off+k,none⟩=some (.int .i64 y)) (go_keep) (first
     | (go_at_call 137;refine(di HX.out _).mono ?_;rintro e w2 ⟨⟨v2,rfl,cx⟩,aD⟩;obtain⟨Hv,oI,X1,X2,hm5⟩:=ei.out _ _ aD;have Rt:=ae X1;have Mr:=ae X2;have dr:=ae cx;clear aD X1 X2 cx)
     | (refine oT (by rfl) _ _ (by rfl) w.heap.size _ _ _ acc (wv d) (by rfl) Rt.out (by rfl) dr.out sT (by omega) hm5 ?_;intro v3 w3 o3 b3;have rK:=(b3.cell (p:=⟨b,off+(k+1),none⟩) hb).trans Hv;have mS:=(b3.cell (p:=⟨b,off+k,none⟩) hb).trans oI;have cX:=ae o3;have bM:=ae (Mr.out.trans b3);clear o3 b3))
    all_goals go_wp2_with fail
    all_goals go_roundw
    case rel=>exact⟨k+1+1,by omega,by go_num,by rw[HT.out];exact cX.out,bM.out⟩
    case measure=>simp[intOf];omega
  ·obtain rfl:k=l.length:=by omega
   have mF:¬ (l.length:Int)<(l.length:Int):=by omega
   rw[ZY]at HO;go_wp2_with fail;go_ret2
   exact⟨⟨_,rfl,HO.out⟩,HB.out⟩
def kj(l:List Int)(k c:Nat)(acc:List Nat):Prop:=(∀ h:k<l.length,acc++fC l[k] (c+1) (l.drop (k+1))=ik l)/\(k=l.length->c=0/\acc=ik l)
theorem kj.start(l:List Int):kj l 0 0 []:=by
 cases l with
 | nil=>exact⟨fun h=>by simp at h,fun _=>⟨rfl,rfl⟩⟩
 | cons x t=>exact⟨fun _=>rfl,fun h=>by simp at h⟩
theorem kj.more{l:List Int}{k c:Nat}{acc:List Nat}(h:kj l k c acc)(hk:k+1<l.length)(he:l[k+1]=l[k]):kj l (k+1) (c+1) acc:=by
 refine⟨fun _=>?_,fun e=>by omega⟩;have:=h.1 (by omega);rw[jar hk,fC,if_pos he]at this;rw[he];exact this
theorem kj.turn{l:List Int}{k c:Nat}{acc:List Nat}(h:kj l k c acc)(hk:k+1<l.length)(he:l[k+1]≠l[k]):kj l (k+1) 0 (acc++(wv l[k]++uv (c+1))):=by
 refine⟨fun _=>?_,fun e=>by omega⟩;have:=h.1 (by omega);rw[jar hk,fC,if_neg he]at this;rw[← this];simp
theorem kj.last{l:List Int}{k c:Nat}{acc:List Nat}(h:kj l k c acc)(hk:k<l.length)(he:k+1=l.length):kj l (k+1) 0 (acc++(wv l[k]++uv (c+1))):=by
 refine⟨fun _=>by omega,fun _=>⟨rfl,?_⟩⟩;have:=h.1 hk;rw[List.drop_of_length_le (by omega),fC]at this;exact this
theorem kj.len{l:List Int}{k c:Nat}{acc:List Nat}(h:kj l k c acc)(hk:k<=l.length):acc.length<=(ik l).length:=by
 rcases jae k l.length with hl | hl
 ·have:=congrArg List.length (h.1 hl)
  rw[ZT]at this;omega
 ·have:=(h.2 (by omega)).2
  rw[this];exact ZR _
theorem C4{w:World}{v:Value}{l:List Int}(hs:Sv w v (aJ l))(hl:l.length<=256)(hi:Is l) :
  Calls Tryz.prog 135 #[.int .i64 2,v] w (mt (ik l) w):=by
 have HI:=ae hi;have HS:=ae hs;have jq:=yT hi hl;obtain⟨a,cap,rfl,aX,bw⟩:=hs.form;have uF:¬ (l.length:Int) > 256:=by omega
 clear hs hi aX bw;go_enter Tryz.func135,Tryz.ntmps135
 go_wp2_with fail;go_loopw [6,9,10] (fun b cv i wr=>∃(k c:Nat) (acc:List Nat),k<=l.length/\c<=k/\i=.int .i64 (k:Int)/\cv=.int .i64 (c:Int)/\aC wr w.heap.size b acc/\kj l k c acc/\Below w.heap.size w wr) (fun _ _ i _=>l.length-(intOf i).toNat)
 case atStart=>exact⟨0,0,[],by omega,by omega,rfl,rfl,aC.nil _ _,kj.start l,ZQ _ _⟩
 case round =>
  obtain⟨k,c,acc,hk,Bt,rfl,rfl,az,Zn,ay⟩:=hrel;have HO:=ae az;have HB:=ae ay;have Zo:=ae Zn;have hacl:=Zn.len hk;have bO:=ay.size;clear az ay Zn;by_cases aB:k<l.length
  ·have mF:(k:Int)<(l.length:Int):=by omega
   obtain⟨b,off,rfl,hb,oD⟩:=HS.out.at aB;have lp:=(HB.out.cell (p:=⟨b,off+k,none⟩) hb).trans oD;have HX:=ae (HI.out.get aB);have Ep:=fd (HI.out.get aB);have Rm:=bI (n:=c+1) (by omega);obtain⟨d,hd⟩:∃ d,c+1=d:=⟨_,rfl⟩;have nI:(c:Int)+1=(d:Int):=by omega
   have hd256:d<=256:=by omega
   have hdk:d<=k+1:=by omega
   rw[hd]at Rm;by_cases tR:k+1=l.length
   ·have hdl:((k:Int)==(l.length:Int)-1)=true:=beq_iff_eq.2 (by omega)
    have i6:=ae (Zo.out.last aB tR);rw[hd]at i6;clear tR oD hd Bt;generalize l[k]=x at *;go_wp2_with fail;go_quiet (fail)
    go_wp2_with fail;refine(di HX.out _).mono ?_;rintro e w2 ⟨⟨v2,rfl,cx⟩,aD⟩;have dr:=ae cx;have HOk:=ae ((HO.out.kept (below_drewN (ZQ _ _) nq)).kept aD);have aN:=ae ((below_drewN HB.out nq).trans (aD.mono bO));have bm:=aN.out.size;clear cx aD;go_wp2_with (first | (at_builtin;refine ar rfl _ _ rfl w.heap.size _ _ acc (wv x) rfl HOk.out rfl dr.out.sv ?c1 ?c2 ?_))
    case c1=>omega
    case c2=>omega
    intro v3 w3 o3 b3;have cX:=ae o3;have bM:=ae (aN.out.trans b3);have iB:=bM.out.size;clear o3 b3;go_wp2_with fail;refine(bC d (by omega) _).mono ?_;rintro e w4 ⟨⟨v4,rfl,tQ⟩,bv⟩;have eP:=ae tQ;have HOk4:=ae (cX.out.kept bv);have b9:=ae (bM.out.trans (bv.mono iB));have He:=b9.out.size;clear tQ bv;go_wp2_with (first | (at_builtin;refine ar rfl _ _ rfl w.heap.size _ _ (acc++wv x) (uv d) rfl HOk4.out rfl eP.out.sv ?c3 ?c4 ?_))
    case c3=>simp;omega
    case c4=>omega
    intro v5 w5 o5 b5;have o5':aC w5 w.heap.size v5 (acc++(wv x++uv d)):=by simpa using o5
    have dH:=ae o5';have aR:=ae (b9.out.trans b5);clear o5 o5' b5;go_wp2_with fail;go_roundw
    case rel=>exact⟨k+1,0,_,by omega,by omega,by go_num,rfl,dH.out,i6.out,aR.out⟩
    case measure=>simp[intOf];omega
   ·have p9:k+1<l.length:=by omega
    have hdl:((k:Int)==(l.length:Int)-1)=false:=Z1.2 (by omega);have hj1:(k:Int)+1<(l.length:Int):=by omega
    obtain⟨b',off',zI,_,kx⟩:=HS.out.at p9;cases zI
    have Hw:=(HB.out.cell (p:=⟨b,off+(k+1),none⟩) hb).trans kx;by_cases he:l[k+1]=l[k]
    ·have i6:=ae (Zo.out.more p9 he)
     rw[hd]at i6;have VN:(l[k+1] != l[k])=false:=by simpa using he
     clear tR oD hd Bt kx he;generalize l[k]=x at *;generalize l[k+1]=y at *;go_wp2_with fail;go_quiet (fail)
     go_wp2_with fail;go_roundw
     case rel=>exact⟨k+1,d,acc,by omega,by omega,by go_num,rfl,HO.out.kept (below_drewN (ZQ _ _) nq),i6.out,below_drewN HB.out nq⟩
     case measure=>simp[intOf];omega
    ·have i6:=ae (Zo.out.turn p9 he)
     rw[hd]at i6;have VN:(l[k+1] != l[k])=true:=by simpa using he
     clear tR oD hd Bt kx he;generalize l[k]=x at *;generalize l[k+1]=y at *;go_wp2_with fail;go_quiet (fail)
     go_wp2_with fail;refine(di HX.out _).mono ?_;rintro e w2 ⟨⟨v2,rfl,cx⟩,aD⟩;have dr:=ae cx;have HOk:=ae ((HO.out.kept (below_drewN (ZQ _ _) nq)).kept aD);have aN:=ae ((below_drewN HB.out nq).trans (aD.mono bO));have bm:=aN.out.size;clear cx aD;go_wp2_with (first | (at_builtin;refine ar rfl _ _ rfl w.heap.size _ _ acc (wv x) rfl HOk.out rfl dr.out.sv ?c1 ?c2 ?_))
     case c1=>omega
     case c2=>omega
     intro v3 w3 o3 b3;have cX:=ae o3;have bM:=ae (aN.out.trans b3);have iB:=bM.out.size;clear o3 b3;go_wp2_with fail;refine(bC d (by omega) _).mono ?_;rintro e w4 ⟨⟨v4,rfl,tQ⟩,bv⟩;have eP:=ae tQ;have HOk4:=ae (cX.out.kept bv);have b9:=ae (bM.out.trans (bv.mono iB));have He:=b9.out.size;clear tQ bv;go_wp2_with (first | (at_builtin;refine ar rfl _ _ rfl w.heap.size _ _ (acc++wv x) (uv d) rfl HOk4.out rfl eP.out.sv ?c3 ?c4 ?_))
     case c3=>simp;omega
     case c4=>omega
     intro v5 w5 o5 b5;have o5':aC w5 w.heap.size v5 (acc++(wv x++uv d)):=by simpa using o5
     have dH:=ae o5';have aR:=ae (b9.out.trans b5);clear o5 o5' b5;go_wp2_with fail;go_roundw
     case rel=>exact⟨k+1,0,_,by omega,by omega,by go_num,rfl,dH.out,i6.out,aR.out⟩
     case measure=>simp[intOf];omega
  ·obtain rfl:k=l.length:=by omega
   have mF:¬ (l.length:Int)<(l.length:Int):=by omega
   have dr:Hid (aC wr w.heap.size u6 (ik l)):=ae (by rw[← (Zo.out.2 rfl).2];exact HO.out);go_wp2_with fail;go_ret2
   exact⟨⟨_,rfl,dr.out⟩,HB.out⟩
end Go.Proofs.YtpljdjmpamjkhaaGreatDoor
