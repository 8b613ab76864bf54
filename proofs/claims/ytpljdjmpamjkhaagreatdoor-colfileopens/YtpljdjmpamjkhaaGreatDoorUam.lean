import Derived.Test.YtpljdjmpamjkhaaGreatDoorUal
import Derived.Deep.AppendLies
set_option linter.unusedVariables false
set_option linter.unusedSimpArgs false
set_option maxRecDepth 100000
set_option maxHeartbeats 8000000
namespace Go.Proofs.YtpljdjmpamjkhaaGreatDoor
open Go.RowKit Go.Lib
theorem dd(w:World)(o:Obj):Below w.heap.size w (w.alloc o):=(jdg _ _).alloc (jdh _) _
theorem DI{x:Int}:∀{u:List Int} {k:Nat} (h:k<u.length),(∀ j (hj:j<k),u[j]'(by omega)≠x)->u[k]=x->pl u x=k
 | y::t,0,_,_,h=>by
  unfold pl;rw[jdf (by simpa using h)]
 | y::t,k+1,hk,ha,h=>by
  have h0:=ha 0 (by omega);unfold pl;rw[jde (by simpa using h0),DI (u:=t) (k:=k) (by simpa using hk) (fun j hj=>by have:=ha (j+1) (by omega);simpa using this) (by simpa using h)]
theorem GW{w:World}{v:Value}{u:List Int}(hs:Sv w v (aK u))(hl:u.length<=256)(x:Int)(hx:x∈u) :
  Calls Tryz.prog 177 #[v,.int .i64 x] w fun e w'=>e=.returned (.int .u64 (pl u x:Int))/\w'=w:=by
 have HS:=ae hs;have kK:=vV hx;have HP:=ae kK;obtain⟨a,cap,rfl,aY,bx⟩:=hs.form;have HF:jfb (∀ k (h:k<u.length),(∀ j (hj:j<k),u[j]'(by omega)≠x)->u[k]=x->pl u x=k):=fun k h h1 h2=>DI h h1 h2
 clear hs aY bx kK hx;go_enter Tryz.func177,Tryz.ntmps177
 go_wp2_with fail;go_loopw [5] (fun i wr=>wr=w/\∃ k:Nat,k<=u.length/\i=.int .i64 (k:Int)/\∀ j (hj:j<k) (h:j<u.length),u[j]≠x) (fun i _=>u.length-(intOf i).toNat)
 case atStart=>exact⟨rfl,0,by omega,rfl,fun j h=>by omega⟩
 case round =>
  obtain⟨rfl,k,hk,rfl,cW⟩:=hrel;have HL:=ae cW;clear cW;by_cases aC:k<u.length
  ·have mO:(k:Int)<(u.length:Int):=by omega
   obtain⟨b,off,rfl,_,dR⟩:=HS.o.at aC;by_cases he:(u[k]==x)=true
   ·have HE:=ae (HF.o k aC (fun j hj=>HL.o j hj (by omega)) (by simpa using he))
    generalize u[k]=y at *;go_wp2_with fail;go_ret
    rw[HE.o];exact⟨rfl,rfl⟩
   ·have hef:(u[k]==x)=false:=by simpa using he
    have HN:jfb (∀ j (hj:j<k+1) (h:j<u.length),u[j]≠x):=by
     intro j hj h;rcases jdJ j k with h1 | h1
     ·exact HL.o j h1 h
     ·have:j=k:=by omega
      subst this;simpa using he
    clear he;generalize u[k]=y at *;go_wp2_with fail;go_roundw
    case rel=>exact⟨trivial,k+1,by omega,by go_num,HN.o⟩
    case measure=>simp[intOf];omega
  ·exfalso
   obtain⟨h1,h2⟩:=HP.o;rw[List.getElem?_eq_getElem h1]at h2;exact HL.o (pl u x) (by omega) h1 (Option.some.inj h2)
def kX(x:Int)(u pre:List Int)(d:Bool)(k:Nat):Prop:=pre++(if d then u.drop k else ins x (u.drop k))=ins x u
theorem kX.step{x:Int}{u pre:List Int}{d:Bool}{k:Nat}(h:kX x u pre d k)(hk:k<u.length) :
  (d=true->kX x u (pre++[u[k]]) true (k+1))/\(d=false->u[k]=x->kX x u (pre++[u[k]]) true (k+1))/\(d=false->x<u[k]->kX x u ((pre++[x])++[u[k]]) true (k+1))/\(d=false->u[k]≠x->¬ x<u[k]->kX x u (pre++[u[k]]) false (k+1)):=by
 unfold kX at *;rw[jdX hk]at h;refine⟨fun hd=>?_,fun hd he=>?_,fun hd he=>?_,fun hd he hn=>?_⟩
 ·subst hd
  rw[jdf rfl]at h ⊢;rw[← h];simp
 ·subst hd
  rw[jde (by simp),ins,jdf he.symm]at h;rw[jdf rfl,← h];simp
 ·subst hd
  rw[jde (by simp),ins,jde (by omega),jdf he]at h;rw[jdf rfl,← h];simp
 ·subst hd
  rw[jde (by simp),ins,jde (fun e=>he e.symm),jde hn]at h;rw[jde (by simp),← h];simp
theorem kX.last{x:Int}{u pre:List Int}{d:Bool}(h:kX x u pre d u.length):(d=true->pre=ins x u)/\(d=false->pre++[x]=ins x u):=by
 unfold kX at h;rw[jeb]at h;refine⟨fun hd=>?_,fun hd=>?_⟩
 ·subst hd
  simpa using h
 ·subst hd
  simpa [ins]using h
theorem kX.len{x:Int}{u pre:List Int}{d:Bool}{k:Nat}(h:kX x u pre d k):pre.length<=u.length+1:=by
 unfold kX at h;have h1:=jdm List.length h;have h2:=pM (x:=x) (u:=u);rw[jdj]at h1;omega
theorem wN{w:World}{v:Value}{l:List Int}(hs:Sv w v (aK l))(hl:l.length<=256) :
  Calls Tryz.prog 176 #[v] w fun e w'=>(∃ v',e=.returned v'/\bv w' w.heap.size v' (cG l))/\Below w.heap.size w w':=by
 have HS:=ae hs;obtain⟨a,cap,rfl,aY,bx⟩:=hs.form;clear hs aY bx;go_enter Tryz.func176,Tryz.ntmps176
 go_wp2_with fail;go_loopw [3,4] (fun vo i wr=>∃ k:Nat,k<=l.length/\i=.int .i64 (k:Int)/\bv wr w.heap.size vo (cG (l.take k))/\Below w.heap.size w wr) (fun _ i _=>l.length-(intOf i).toNat)
 case atStart=>exact⟨0,by omega,rfl,bv.nil _ _,jdg _ _⟩
 case round =>
  obtain⟨i,hi,rfl,how,az⟩:=hrel;have HO:=ae how;have HB:=ae az;have bP:=az.size;obtain⟨ao,co,rfl⟩:=how.len;clear how az;by_cases aC:i<l.length
  ·have mO:(i:Int)<(l.length:Int):=by omega
   have HU:=ae (vU aC);have uK:=fF (l.take i);rw[jdo]at uK;obtain⟨bl,offl,rfl,fO,eQ⟩:=(HS.o.kept HB.o).at aC;generalize l[i]=x at *;generalize cG (l.take i)=u at *;have Uv:u.length<=256:=(by omega);generalize wr=W1 at *;go_wp2_with fail;go_loopw [5,6,7] (fun vn vd j wq=>∃(k:Nat) (pre:List Int) (d:Bool),k<=u.length/\j=.int .i64 (k:Int)/\vd=.bool d/\bv wq W1.heap.size vn pre/\kX x u pre d k/\Below W1.heap.size W1 wq) (fun _ _ j _=>u.length-(intOf j).toNat)
   case atStart=>exact⟨0,[],false,by omega,rfl,rfl,bv.nil _ _,rfl,jdg _ _⟩
   case round =>
    obtain⟨k,pre,d,hk,rfl,rfl,hon,hia,uP⟩:=hrel;have Ad:=ae hon;have HIA:=ae hia;have oX:=ae uP;have yD:=uP.size;have kK:=hia.len;obtain⟨an,cn,rfl⟩:=hon.len;clear hon hia uP;have eY:jfb (∀ n z,Below W1.heap.size W1 ((wr.drewN n).alloc (.cells #[.int .i64 z] 2))):=fun n z=>(ar oX.o n).alloc yD _
    have Ks:jfb (∀ n z,W1.heap.size<=((wr.drewN n).alloc (.cells #[.int .i64 z] 2)).heap.size):=fun n z=>by rw[jdi];exact Nat.le_succ_of_le yD
    have nm:jfb (∀ n z,bv ((wr.drewN n).alloc (.cells #[.int .i64 z] 2)) W1.heap.size (.slice an pre.length cn) pre):=fun n z=>(Ad.o.kept (ar (jdg _ _) n)).kept (dd _ _)
    by_cases pu:k<u.length
    ·have jbj:(k:Int)<(u.length:Int):=by omega
     obtain⟨b2,off2,Ae,aE,FD⟩:=HO.o.sv.at pu;cases Ae
     have kF:=(oX.o.cell (p:=⟨b2,off2+k,none⟩) aE).trans FD;have jbk:=(oX.o.cell (p:=⟨bl,offl+i,none⟩) fO).trans eQ;have HSt:=ae (HIA.o.step pu);have jbl:=ae FD;clear HIA FD;generalize u[k]=y at *;cases d with
     | true =>
      have rY:=ae (HSt.o.1 rfl);by_cases Kt:(y==x)=true
      ·go_wp2_with fail
       go_quiet (fail)
       go_wp2_with fail;go_quiet (fail)
       go_wp2_with (first | (at_builtin;refine aX rfl _ _ rfl W1.heap.size _ _ y pre rfl (nm.o _ y) rfl (aL _ _ _) ?c2 ?c3 ?_))
       case c2=>omega
       case c3=>first | omega | exact Ks.o _ _
       intro v7 w7 o7 b7;have iy:=ae o7;have ic:=ae ((eY.o _ y).trans b7);clear o7 b7;go_wp2_with fail;go_roundw
       case rel=>exact⟨k+1,_,true,by omega,by go_num,rfl,iy.o,rY.o,ic.o⟩
       case measure=>simp[intOf];omega
      ·have jbm:(y==x)=false:=by simpa using Kt
       clear Kt;go_wp2_with fail;go_quiet (fail)
       go_wp2_with fail;go_quiet (fail)
       go_wp2_with (first | (at_builtin;refine aX rfl _ _ rfl W1.heap.size _ _ y pre rfl (nm.o _ y) rfl (aL _ _ _) ?c2 ?c3 ?_))
       case c2=>omega
       case c3=>first | omega | exact Ks.o _ _
       intro v7 w7 o7 b7;have iy:=ae o7;have ic:=ae ((eY.o _ y).trans b7);clear o7 b7;go_wp2_with fail;go_roundw
       case rel=>exact⟨k+1,_,true,by omega,by go_num,rfl,iy.o,rY.o,ic.o⟩
       case measure=>simp[intOf];omega
     | false =>
      by_cases Kt:(y==x)=true
      ·have rY:=ae (HSt.o.2.1 rfl (by simpa using Kt))
       go_wp2_with fail;go_quiet (fail)
       go_wp2_with fail;go_quiet (fail)
       go_wp2_with (first | (at_builtin;refine aX rfl _ _ rfl W1.heap.size _ _ y pre rfl (nm.o _ y) rfl (aL _ _ _) ?c2 ?c3 ?_))
       case c2=>omega
       case c3=>first | omega | exact Ks.o _ _
       intro v7 w7 o7 b7;have iy:=ae o7;have ic:=ae ((eY.o _ y).trans b7);clear o7 b7;go_wp2_with fail;go_roundw
       case rel=>exact⟨k+1,_,true,by omega,by go_num,rfl,iy.o,rY.o,ic.o⟩
       case measure=>simp[intOf];omega
      ·have jbm:(y==x)=false:=by simpa using Kt
       have Ku:y≠x:=by simpa using Kt
       clear Kt;by_cases Ct:x<y
       ·have jbn:decide (x<y)=true:=jdy Ct
        have rY:=ae (HSt.o.2.2.1 rfl Ct);clear Ku;go_wp2_with fail;go_quiet (fail)
        go_wp2_with fail;go_quiet (fail)
        go_wp2_with (first | (at_builtin;refine aX rfl _ _ rfl W1.heap.size _ _ x pre rfl (nm.o _ x) rfl (aL _ _ _) ?c2 ?c3 ?_))
        case c2=>omega
        case c3=>first | omega | exact Ks.o _ _
        intro v6 w6 o6 b6;have ng:=ae o6;have jc:=ae ((eY.o _ x).trans b6);have hc6:=(jc.o.cell (p:=⟨b2,off2+k,none⟩) aE).trans jbl.o;have FB:=jc.o.size;have Ai:=ae (o6.kept (dd w6 (.cells #[.int .i64 y] 2)));clear o6 b6;go_wp2_with (first | (at_builtin;refine aX rfl _ _ rfl W1.heap.size _ _ y (pre++[x]) rfl Ai.o rfl (aL _ _ _) ?c2 ?c3 ?_))
        case c2=>simp;omega
        case c3=>first | omega | (rw[jdi];omega)
        intro v7 w7 o7 b7;have o7':bv w7 W1.heap.size v7 (pre++[x]++[y]):=by simpa using o7
        have iy:=ae o7';have ic:=ae ((jc.o.alloc FB (.cells #[.int .i64 y] 2)).trans b7);clear o7 o7' b7;go_wp2_with fail;go_roundw
        case rel=>exact⟨k+1,_,true,by omega,by go_num,rfl,iy.o,rY.o,ic.o⟩
        case measure=>simp[intOf];omega
       ·have jbn:decide (x<y)=false:=jds Ct
        have rY:=ae (HSt.o.2.2.2 rfl Ku Ct);clear Ku;go_wp2_with fail;go_quiet (fail)
        go_wp2_with fail;go_quiet (fail)
        go_wp2_with (first | (at_builtin;refine aX rfl _ _ rfl W1.heap.size _ _ y pre rfl (nm.o _ y) rfl (aL _ _ _) ?c2 ?c3 ?_))
        case c2=>omega
        case c3=>first | omega | exact Ks.o _ _
        intro v7 w7 o7 b7;have iy:=ae o7;have ic:=ae ((eY.o _ y).trans b7);clear o7 b7;go_wp2_with fail;go_roundw
        case rel=>exact⟨k+1,_,false,by omega,by go_num,rfl,iy.o,rY.o,ic.o⟩
        case measure=>simp[intOf];omega
    ·obtain rfl:k=u.length:=by omega
     have jbj:¬ (u.length:Int)<(u.length:Int):=(by omega);have Qi:=ae HIA.o.last;cases d with
     | true =>
      have e:=Qi.o.1 rfl;have jbo:jfb (bv wr w.heap.size (.slice an pre.length cn) (cG (l.take (i+1)))):=ae (by rw[HU.o,← e];exact Ad.o.low bP);clear e;go_wp2_with fail;go_roundw
      case rel=>exact⟨i+1,by omega,by go_num,jbo.o,HB.o.trans (oX.o.mono bP)⟩
      case measure=>simp[intOf];omega
     | false =>
      have HE:=ae (Qi.o.2 rfl);have jbk:=(oX.o.cell (p:=⟨bl,offl+i,none⟩) fO).trans eQ;have yF:=ae (Ad.o.kept (dd wr (.cells #[.int .i64 x] 2)));have yG:=ae (oX.o.alloc yD (.cells #[.int .i64 x] 2));go_wp2_with (first | (at_builtin;refine aX rfl _ _ rfl W1.heap.size _ _ x pre rfl yF.o rfl (aL _ _ _) ?c2 ?c3 ?_))
      case c2=>omega
      case c3=>first | omega | (rw[jdi];omega)
      intro v7 w7 o7 b7;have iy:jfb (bv w7 w.heap.size v7 (cG (l.take (i+1)))):=ae (by rw[HU.o,← HE.o];exact o7.low bP);have ic:=ae (HB.o.trans ((yG.o.trans b7).mono bP));clear o7 b7;go_wp2_with fail;go_roundw
      case rel=>exact⟨i+1,by omega,by go_num,iy.o,ic.o⟩
      case measure=>simp[intOf];omega
  ·obtain rfl:i=l.length:=by omega
   have mO:¬ (l.length:Int)<(l.length:Int):=(by omega);rw[jdp]at HO;go_wp2_with fail;go_ret
   exact⟨⟨_,rfl,HO.o⟩,HB.o⟩
def mC(bs:List Nat)(w:World)(e:Ending)(w':World):Prop:=(∃ v',e=.returned (.tuple #[v',.bool true])/\aD w' w.heap.size v' bs)/\Below w.heap.size w w'
theorem pj{w:World}{ops:Array Oper}{o:Oper}{a:Act}{K:Act->World->Prop}{Q:Exit->Act->World->Prop}{E:Prop}(eg:o.guard=none)(s x:Operand)
  (ho:o.op=.call { callee:=.builtin .append,args:=#[s,x],argTypes:=#[30,30] })
  (base B2:Nat) (v vx:Value) (l0 l:List Nat) (hs:a.eval s=v) (aA:aD w base v l0) (hx:a.eval x=vx) (ft:aD w B2 vx l) (hp:0<l.length)
  (hbytes:l0.length+l.length<=100000) (aI:base<=w.heap.size)
  (h:∀ v' w',aD w' base v' (l0++l)->Below base w w'->K (a.put o.dst v') w') :
  if Region.wanted o (yielded ops a.tmps)=true then Oper.wp Tryz.prog o a w K Q else E:=by
 obtain⟨i0,hi,cm,hz1',bn⟩:=jdA jm;obtain⟨g,cap,rfl,hB,hg⟩:=oG ft hp;have hc:∀ j u,(aF .u8 l)[j]?=some u->w.cell? ((⟨g,0,none⟩:Addr).add j)=some u:=fun j u hj=>ft.cells (g:=g) rfl j u hj
 unfold aD at aA;refine step_append_lies (P:=Tryz.prog) w eg s x 30 ho base 5 i0 (.int .u8 0) 1 1 Tryz.underlying30 hi cm hz1' bn rfl (by decide) v l0.length (aF .u8 l0) hs aA ⟨g,0,none⟩ l.length cap (aF .u8 l) hx (by rw[ap];omega) hc (fR _ _) hp (by unfold maxLen;omega) (by omega) aI _ rfl ?_;intro g' cap' w' o1 g1 _ _;refine h _ w' ?_ ((jdg base w).grown g1 aI (fun k hk=>(aA.lt k hk).1));unfold aD;rw[cd,jdj];exact o1
theorem DJ{w:World}{v:Value}{l:List Int}(hs:Sv w v (aK l))(hl:l.length<=256)(hi:Is l) :
  Calls Tryz.prog 135 #[.int .i64 0,v] w (mC (gh l) w):=by
 have HI:=ae hi;have HS:=ae hs;obtain⟨a,cap,rfl,aY,bx⟩:=hs.form;have ve:¬ (l.length:Int) > 256:=by omega
 clear hs hi aY bx;go_enter Tryz.func135,Tryz.ntmps135
 go_wp2_with fail;go_loopw [6,7] (fun b i wr=>∃ k:Nat,k<=l.length/\i=.int .i64 (k:Int)/\aD wr w.heap.size b (gh (l.take k))/\Below w.heap.size w wr) (fun _ i _=>l.length-(intOf i).toNat)
 case atStart=>exact⟨0,by omega,rfl,aD.nil _ _,jdg _ _⟩
 case round =>
  obtain⟨k,hk,rfl,aA,az⟩:=hrel;have HO:=ae aA;have HB:=ae az;have bP:=az.size;clear aA az;by_cases aC:k<l.length
  ·have mO:(k:Int)<(l.length:Int):=by omega
   obtain⟨b,off,rfl,hb,dR⟩:=(HS.o.kept HB.o).at aC;have HX:=ae (HI.o.get aC);have HT:=ae (zk aC);have jx:=(lO (HI.o.take k)).1;rw[jdo]at jx;have Fx:=fh (HI.o.get aC);generalize l[k]=x at *;generalize gh (l.take k)=acc at *;go_wp2_with fail;refine(dm HX.o _).mono ?_;rintro e w2 ⟨⟨v2,rfl,cz⟩,aE⟩;have du:=ae cz;have HOk:=ae (HO.o.kept aE);have aO:=ae (HB.o.trans (aE.mono bP));have bn:=aE.size;clear cz aE;go_wp2_with (first | (at_builtin;refine ax rfl _ _ rfl w.heap.size _ _ acc (wv x) rfl HOk.o rfl du.o.sv ?c1 ?c2 ?_))
   case c1=>omega
   case c2=>omega
   intro v3 w3 o3 b3;have cZ:=ae o3;have bN:=ae (aO.o.trans b3);clear o3 b3;go_wp2_with fail;go_roundw
   case rel=>exact⟨k+1,by omega,by go_num,by rw[HT.o];exact cZ.o,bN.o⟩
   case measure=>simp[intOf];omega
  ·obtain rfl:k=l.length:=by omega
   have mO:¬ (l.length:Int)<(l.length:Int):=(by omega);rw[jdp]at HO;go_wp2_with fail;go_ret2
   exact⟨⟨_,rfl,HO.o⟩,HB.o⟩
theorem DK{w:World}{v:Value}{l:List Int}(hs:Sv w v (aK l))(hl:l.length<=256)(hi:Is l) :
  Calls Tryz.prog 135 #[.int .i64 1,v] w (mC (iE 0 l) w):=by
 have HI:=ae hi;have HS:=ae hs;obtain⟨a,cap,rfl,aY,bx⟩:=hs.form;have ve:¬ (l.length:Int) > 256:=by omega
 clear hs hi aY bx;go_enter Tryz.func135,Tryz.ntmps135
 go_wp2_with fail;go_loopw [6,8] (fun b i wr=>∃ k:Nat,k<=l.length/\i=.int .i64 (k:Int)/\aD wr w.heap.size b (iE 0 (l.take k))/\Below w.heap.size w wr) (fun _ i _=>l.length-(intOf i).toNat)
 case atStart=>exact⟨0,by omega,rfl,aD.nil _ _,jdg _ _⟩
 case round =>
  obtain⟨k,hk,rfl,aA,az⟩:=hrel;have HO:=ae aA;have HB:=ae az;have bP:=az.size;clear aA az;by_cases aC:k<l.length
  ·have mO:(k:Int)<(l.length:Int):=by omega
   obtain⟨b,off,rfl,hb,Cd⟩:=HS.o.at aC;have dR:=(HB.o.cell (p:=⟨b,off+k,none⟩) hb).trans Cd;clear Cd;have HX:=ae (jg (l[k]-ahd l k));have HT:=ae (zm aC);have jx:=(ov (l:=l.take k) (last:=0)).1;rw[jdo]at jx;have Fx:=fh (jg (l[k]-ahd l k));have tq:=ZY (w64 (l[k]-ahd l k));cases k with
   | zero =>
    have e0:w64 (l[0]-ahd l 0)=l[0]:=by
     unfold ahd;rw[jdf rfl,Int.sub_zero,QR (HI.o.get aC)]
    rw[e0]at HX HT Fx tq;rw[jd9]at dR;clear e0;generalize iE 0 (l.take 0)=acc at *;generalize l[0]=x at *;go_wp2_with fail;refine(dm HX.o _).mono ?_;rintro e w2 ⟨⟨v2,rfl,cz⟩,aE⟩;have du:=ae cz;have HOk:=ae (HO.o.kept aE);have aO:=ae (HB.o.trans (aE.mono bP));have bn:=aE.size;clear cz aE;go_wp2_with (first | (at_builtin;refine ax rfl _ _ rfl w.heap.size _ _ acc (wv x) rfl HOk.o rfl du.o.sv ?c1 ?c2 ?_))
    case c1=>omega
    case c2=>omega
    intro v3 w3 o3 b3;have cZ:=ae o3;have bN:=ae (aO.o.trans b3);clear o3 b3;go_wp2_with fail;go_roundw
    case rel=>exact⟨1,by omega,by go_num,by rw[HT.o];exact cZ.o,bN.o⟩
    case measure=>simp[intOf];omega
   | succ k =>
    obtain⟨b',off',Ae,_,XK⟩:=(HS.o.kept HB.o).at (show k<l.length by omega);cases Ae
    rw[DA (show k<l.length by omega)]at HX HT Fx tq;have h1:=HI.o.get aC;have h2:=HI.o.get (show k<l.length by omega);have qm:(((k+1:Nat):Int)==0)=false:=jdt.2 (by omega);have qr:((k+1:Nat):Int)-1=(k:Int):=(by omega);have hj1:(0:Int)<=(k:Int)+1:=(by omega);have Qd:(k:Int)+1<(l.length:Int):=(by omega);have hj3:((k:Int)+1).toNat=k+1:=(by omega);have hj4:(0:Int)<=(k:Int):=(by omega);have hj5:(k:Int)<(l.length:Int):=(by omega);have hj6:IntKind.i64.wrap ((k:Int)+1-1)=(k:Int):=by rw[jdR];omega
    have hj7:(k:Int)+1-1=(k:Int):=(by omega);have Qe:IntKind.i64.wrap (k:Int)=(k:Int):=by rw[jdR];omega
    obtain⟨X,hX⟩:∃ X,IntKind.u64.wrap l[k+1]=X:=⟨_,rfl⟩;obtain⟨Y,hY⟩:∃ Y,IntKind.u64.wrap l[k]=Y:=⟨_,rfl⟩;obtain⟨Z,hZ⟩:∃ Z,IntKind.u64.wrap (X-Y)=Z:=⟨_,rfl⟩
    have hD:IntKind.i64.wrap Z=w64 (l[k+1]-l[k]):=by
     rw[← hZ,← hX,← hY,← qW,jdR,jdR,jdL,jdL,jdL];omega
    clear h1 h2;generalize l[k+1]=x at *;generalize l[k]=y at *;generalize iE 0 (l.take (k+1))=acc at *;generalize w64 (x-y)=d at *
    have em:jfb (∀ n W',Below wr.heap.size (wr.drewN n) W'->W'.cell? ⟨b,off+(k+1),none⟩=some (.int .i64 x)/\W'.cell? ⟨b,off+k,none⟩=some (.int .i64 y)/\aD W' w.heap.size u6 acc/\Below w.heap.size w W'/\w.heap.size<=W'.heap.size):=ae (fun n W' h=>by
     have hb':Below wr.heap.size wr W':=(ar (jdg _ _) n).trans h;have lm:=HB.o.trans (hb'.mono bP);exact⟨(hb'.cell (p:=⟨b,off+(k+1),none⟩) (jdD hb bP)).trans dR,(hb'.cell (p:=⟨b,off+k,none⟩) (jdD hb bP)).trans XK,HO.o.kept hb',lm,lm.size⟩)
    go_wp2_with fail
    go_region_held3 (fun w'=>w'.cell? ⟨b,off+(k+1),none⟩=some (.int .i64 x)/\w'.cell? ⟨b,off+k,none⟩=some (.int .i64 y)) (go_keep) (first
     | (go_at_call 137;refine(dm HX.o _).mono ?_;rintro e w2 ⟨⟨v2,rfl,cz⟩,aE⟩;obtain⟨Kv,oW,hm3,hm4,hm5⟩:=em.o _ _ aE;have Uw:=ae hm3;have Px:=ae hm4;have du:=ae cz;clear aE hm3 hm4 cz)
     | (refine pj (by rfl) _ _ (by rfl) w.heap.size _ _ _ acc (wv d) (by rfl) Uw.o (by rfl) du.o tq (by omega) hm5 ?_;intro v3 w3 o3 b3;have sg:=(b3.cell (p:=⟨b,off+(k+1),none⟩) hb).trans Kv;have nc:=(b3.cell (p:=⟨b,off+k,none⟩) hb).trans oW;have cZ:=ae o3;have bN:=ae (Px.o.trans b3);clear o3 b3))
    all_goals go_wp2_with fail
    all_goals go_roundw
    case rel=>exact⟨k+1+1,by omega,by go_num,by rw[HT.o];exact cZ.o,bN.o⟩
    case measure=>simp[intOf];omega
  ·obtain rfl:k=l.length:=by omega
   have mO:¬ (l.length:Int)<(l.length:Int):=(by omega);rw[jdp]at HO;go_wp2_with fail;go_ret2
   exact⟨⟨_,rfl,HO.o⟩,HB.o⟩
def kr(l:List Int)(k c:Nat)(acc:List Nat):Prop:=(∀ h:k<l.length,acc++fE l[k] (c+1) (l.drop (k+1))=im l)/\(k=l.length->c=0/\acc=im l)
theorem kr.start(l:List Int):kr l 0 0 []:=by
 cases l with
 | nil=>exact⟨fun h=>by simp at h,fun _=>⟨rfl,rfl⟩⟩
 | cons x t=>exact⟨fun _=>rfl,fun h=>by simp at h⟩
theorem kr.more{l:List Int}{k c:Nat}{acc:List Nat}(h:kr l k c acc)(hk:k+1<l.length)(he:l[k+1]=l[k]):kr l (k+1) (c+1) acc:=by
 refine⟨fun _=>?_,fun e=>by omega⟩;have:=h.1 (by omega);rw[jdX hk,fE,jdf he]at this;rw[he];exact this
theorem kr.turn{l:List Int}{k c:Nat}{acc:List Nat}(h:kr l k c acc)(hk:k+1<l.length)(he:l[k+1]≠l[k]):kr l (k+1) 0 (acc++(wv l[k]++uv (c+1))):=by
 refine⟨fun _=>?_,fun e=>by omega⟩;have:=h.1 (by omega);rw[jdX hk,fE,jde he]at this;rw[← this];simp
theorem kr.last{l:List Int}{k c:Nat}{acc:List Nat}(h:kr l k c acc)(hk:k<l.length)(he:k+1=l.length):kr l (k+1) 0 (acc++(wv l[k]++uv (c+1))):=by
 refine⟨fun _=>by omega,fun _=>⟨rfl,?_⟩⟩;have:=h.1 hk;rw[List.drop_of_length_le (by omega),fE]at this;exact this
theorem kr.len{l:List Int}{k c:Nat}{acc:List Nat}(h:kr l k c acc)(hk:k<=l.length):acc.length<=(im l).length:=by
 rcases jdJ k l.length with hl | hl
 ·have:=jdm List.length (h.1 hl)
  rw[jdj]at this;omega
 ·have:=(h.2 (by omega)).2
  rw[this];exact jdh _
theorem DL{w:World}{v:Value}{l:List Int}(hs:Sv w v (aK l))(hl:l.length<=256)(hi:Is l) :
  Calls Tryz.prog 135 #[.int .i64 2,v] w (mC (im l) w):=by
 have HI:=ae hi;have HS:=ae hs;have jx:=zr hi hl;obtain⟨a,cap,rfl,aY,bx⟩:=hs.form;have ve:¬ (l.length:Int) > 256:=by omega
 clear hs hi aY bx;go_enter Tryz.func135,Tryz.ntmps135
 go_wp2_with fail;go_loopw [6,9,10] (fun b cv i wr=>∃(k c:Nat) (acc:List Nat),k<=l.length/\c<=k/\i=.int .i64 (k:Int)/\cv=.int .i64 (c:Int)/\aD wr w.heap.size b acc/\kr l k c acc/\Below w.heap.size w wr) (fun _ _ i _=>l.length-(intOf i).toNat)
 case atStart=>exact⟨0,0,[],by omega,by omega,rfl,rfl,aD.nil _ _,kr.start l,jdg _ _⟩
 case round =>
  obtain⟨k,c,acc,hk,Cd,rfl,rfl,aA,hra,az⟩:=hrel;have HO:=ae aA;have HB:=ae az;have HRA:=ae hra;have hacl:=hra.len hk;have bP:=az.size;clear aA az hra;by_cases aC:k<l.length
  ·have mO:(k:Int)<(l.length:Int):=by omega
   obtain⟨b,off,rfl,hb,oR⟩:=HS.o.at aC;have ly:=(HB.o.cell (p:=⟨b,off+k,none⟩) hb).trans oR;have HX:=ae (HI.o.get aC);have Fx:=fh (HI.o.get aC);have Uq:=bJ (n:=c+1) (by omega);obtain⟨d,hd⟩:∃ d,c+1=d:=⟨_,rfl⟩;have nV:(c:Int)+1=(d:Int):=(by omega);have hd256:d<=256:=(by omega);have hdk:d<=k+1:=(by omega);rw[hd]at Uq;by_cases uq:k+1=l.length
   ·have hdl:((k:Int)==(l.length:Int)-1)=true:=beq_iff_eq.2 (by omega)
    have jd:=ae (HRA.o.last aC uq);rw[hd]at jd;clear uq oR hd Cd;generalize l[k]=x at *;go_wp2_with fail;go_quiet (fail)
    go_wp2_with fail;refine(dm HX.o _).mono ?_;rintro e w2 ⟨⟨v2,rfl,cz⟩,aE⟩;have du:=ae cz;have HOk:=ae ((HO.o.kept (ar (jdg _ _) nq)).kept aE);have aO:=ae ((ar HB.o nq).trans (aE.mono bP));have bn:=aO.o.size;clear cz aE;go_wp2_with (first | (at_builtin;refine ax rfl _ _ rfl w.heap.size _ _ acc (wv x) rfl HOk.o rfl du.o.sv ?c1 ?c2 ?_))
    case c1=>omega
    case c2=>omega
    intro v3 w3 o3 b3;have cZ:=ae o3;have bN:=ae (aO.o.trans b3);have iD:=bN.o.size;clear o3 b3;go_wp2_with fail;refine(bD d (by omega) _).mono ?_;rintro e w4 ⟨⟨v4,rfl,uo⟩,bw⟩;have eR:=ae uo;have HOk4:=ae (cZ.o.kept bw);have ce:=ae (bN.o.trans (bw.mono iD));have Ke:=ce.o.size;clear uo bw;go_wp2_with (first | (at_builtin;refine ax rfl _ _ rfl w.heap.size _ _ (acc++wv x) (uv d) rfl HOk4.o rfl eR.o.sv ?c3 ?c4 ?_))
    case c3=>simp;omega
    case c4=>omega
    intro v5 w5 o5 b5;have o5':aD w5 w.heap.size v5 (acc++(wv x++uv d)):=by simpa using o5
    have dJ:=ae o5';have aS:=ae (ce.o.trans b5);clear o5 o5' b5;go_wp2_with fail;go_roundw
    case rel=>exact⟨k+1,0,_,by omega,by omega,by go_num,rfl,dJ.o,jd.o,aS.o⟩
    case measure=>simp[intOf];omega
   ·have qr:k+1<l.length:=by omega
    have hdl:((k:Int)==(l.length:Int)-1)=false:=jdt.2 (by omega);have hj1:(k:Int)+1<(l.length:Int):=(by omega);obtain⟨b',off',Ae,_,kF⟩:=HS.o.at qr;cases Ae
    have Kw:=(HB.o.cell (p:=⟨b,off+(k+1),none⟩) hb).trans kF;by_cases he:l[k+1]=l[k]
    ·have jd:=ae (HRA.o.more qr he)
     rw[hd]at jd;have Zb:(l[k+1] != l[k])=false:=by simpa using he
     clear uq oR hd Cd kF he;generalize l[k]=x at *;generalize l[k+1]=y at *;go_wp2_with fail;go_quiet (fail)
     go_wp2_with fail;go_roundw
     case rel=>exact⟨k+1,d,acc,by omega,by omega,by go_num,rfl,HO.o.kept (ar (jdg _ _) nq),jd.o,ar HB.o nq⟩
     case measure=>simp[intOf];omega
    ·have jd:=ae (HRA.o.turn qr he)
     rw[hd]at jd;have Zb:(l[k+1] != l[k])=true:=by simpa using he
     clear uq oR hd Cd kF he;generalize l[k]=x at *;generalize l[k+1]=y at *;go_wp2_with fail;go_quiet (fail)
     go_wp2_with fail;refine(dm HX.o _).mono ?_;rintro e w2 ⟨⟨v2,rfl,cz⟩,aE⟩;have du:=ae cz;have HOk:=ae ((HO.o.kept (ar (jdg _ _) nq)).kept aE);have aO:=ae ((ar HB.o nq).trans (aE.mono bP));have bn:=aO.o.size;clear cz aE;go_wp2_with (first | (at_builtin;refine ax rfl _ _ rfl w.heap.size _ _ acc (wv x) rfl HOk.o rfl du.o.sv ?c1 ?c2 ?_))
     case c1=>omega
     case c2=>omega
     intro v3 w3 o3 b3;have cZ:=ae o3;have bN:=ae (aO.o.trans b3);have iD:=bN.o.size;clear o3 b3;go_wp2_with fail;refine(bD d (by omega) _).mono ?_;rintro e w4 ⟨⟨v4,rfl,uo⟩,bw⟩;have eR:=ae uo;have HOk4:=ae (cZ.o.kept bw);have ce:=ae (bN.o.trans (bw.mono iD));have Ke:=ce.o.size;clear uo bw;go_wp2_with (first | (at_builtin;refine ax rfl _ _ rfl w.heap.size _ _ (acc++wv x) (uv d) rfl HOk4.o rfl eR.o.sv ?c3 ?c4 ?_))
     case c3=>simp;omega
     case c4=>omega
     intro v5 w5 o5 b5;have o5':aD w5 w.heap.size v5 (acc++(wv x++uv d)):=by simpa using o5
     have dJ:=ae o5';have aS:=ae (ce.o.trans b5);clear o5 o5' b5;go_wp2_with fail;go_roundw
     case rel=>exact⟨k+1,0,_,by omega,by omega,by go_num,rfl,dJ.o,jd.o,aS.o⟩
     case measure=>simp[intOf];omega
  ·obtain rfl:k=l.length:=by omega
   have mO:¬ (l.length:Int)<(l.length:Int):=(by omega);have du:jfb (aD wr w.heap.size u6 (im l)):=ae (by rw[← (HRA.o.2 rfl).2];exact HO.o);go_wp2_with fail;go_ret2
   exact⟨⟨_,rfl,du.o⟩,HB.o⟩
def wO(f:Fd):List Value:=[.int .u32 (f.1:Int),.string f.2.1,.int .u8 (f.2.2.1:Int),.bool f.2.2.2]
def pW(f:Fd):Value:=.agg #[.int .u32 (f.1:Int),.string f.2.1,.int .u8 (f.2.2.1:Int),.bool f.2.2.2]
def eD(l:List Fd):List Value:=l.flatMap wO
theorem qY(a b:List Fd):eD (a++b)=eD a++eD b:=jet
theorem kt(c:Fd)(l:List Fd):eD (c::l)=wO c++eD l:=jeA
theorem iq:∀ l:List Fd,(eD l).length=l.length*4
 | []=>rfl
 | c::t=>by
  rw[kt,jdj,iq t,jdn];simp[wO]
  omega
theorem zA:∀{l:List Fd} {j:Nat} (h:j<l.length),(eD l)[j*4]?=some (.int .u32 (l[j].1:Int))/\(eD l)[j*4+1]?=some (.string l[j].2.1)/\(eD l)[j*4+2]?=some (.int .u8 (l[j].2.2.1:Int))/\(eD l)[j*4+3]?=some (.bool l[j].2.2.2)
 | c::t,0,h=>by simp[kt,wO]
 | c::t,j+1,h=>by
  have ih:=zA (l:=t) (j:=j) (by simpa using h);rw[kt]
  have e:∀ k,(wO c++eD t)[(j+1)*4+k]?=(eD t)[j*4+k]?:=fun k=>by
   rw[List.getElem?_append_right (by simp[wO];omega)];simp only[wO,jdn,jdI];congr 1
   omega
  have e0:=e 0;simp only[jd9]at e0;rw[e0,e 1,e 2,e 3];simpa using ih
theorem AY(f:Fd):∀ u∈wO f,u.oneCell'=true:=by
 intro u hu;unfold wO at hu;simp only[jdz,jeY,or_false]at hu;rcases hu with rfl | rfl | rfl | rfl<;>rfl
theorem pm(l:List Fd):∀ u∈eD l,u.oneCell'=true:=by
 intro u hu;obtain⟨f,_,h⟩:=List.mem_flatMap.1 hu;exact AY f u h
theorem GX(l:List Fd)(k:Nat):eD (l.take k)=(eD l).take (k*4):=by
 induction l generalizing k with
 | nil=>simp[eD]
 | cons f t ih =>
  cases k with
  | zero=>simp[eD]
  | succ k =>
   have hl:(wO f).length=4:=rfl;rw[jeZ,kt,kt,ih,List.take_append,hl,jdZ (l:=wO f) (by rw[hl];omega)];congr 2
   omega
def Sf(W:World)(v:Value)(l:List Fd):Prop :=
 ∃ a cap,v=.slice a l.length cap/\l.length<=cap/\cap<=maxLen/\(a=none->cap=0)/\(0<l.length->∃ b off,a=some ⟨b,off,none⟩/\b<W.heap.size/\∀ j x,(eD l)[j]?=some x->W.cell? ⟨b,off+j,none⟩=some x)
theorem Sf.kept{W W':World}{v:Value}{l:List Fd}(h:Sf W v l)(hb:Below W.heap.size W W'):Sf W' v l:=by
 obtain⟨a,cap,h1,h2,h3,h0,h4⟩:=h;refine⟨a,cap,h1,h2,h3,h0,fun h0=>?_⟩;obtain⟨b,off,h5,h6,h7⟩:=h4 h0;exact⟨b,off,h5,jdD h6 hb.size,fun j x hj=>(hb.cell (p:=⟨b,off+j,none⟩) h6).trans (h7 j x hj)⟩
theorem Sf.form{W:World}{v:Value}{l:List Fd}(h:Sf W v l):∃ a cap,v=.slice a l.length cap/\l.length<=cap/\cap<=9223372036854775807:=by
 obtain⟨a,cap,h1,h2,h3,_⟩:=h;exact⟨a,cap,h1,h2,by unfold maxLen at h3;omega⟩
theorem Sf.at{W:World}{a:Option Addr}{n cap:Nat}{l:List Fd}(h:Sf W (.slice a n cap) l){k:Nat}(hk:k<l.length) :
  ∃ b off,a=some ⟨b,off,none⟩/\b<W.heap.size/\W.cell? ⟨b,off+k*4,none⟩=some (.int .u32 (l[k].1:Int))/\W.cell? ⟨b,off+k*4+1,none⟩=some (.string l[k].2.1)/\W.cell? ⟨b,off+k*4+2,none⟩=some (.int .u8 (l[k].2.2.1:Int))/\W.cell? ⟨b,off+k*4+3,none⟩=some (.bool l[k].2.2.2):=by
 obtain⟨a',cap',e,h1,h2,h0,h4⟩:=h;simp only[Value.slice.injEq]at e;obtain⟨rfl,_,_⟩:=e;obtain⟨b,off,rfl,h5,h6⟩:=h4 (by omega);obtain⟨c0,c1,c2,c3⟩:=zA hk;refine⟨b,off,rfl,h5,h6 _ _ c0,?_,?_,?_⟩
 ·rw[jeo]
  exact h6 _ _ c1
 ·rw[jeo]
  exact h6 _ _ c2
 ·rw[jeo]
  exact h6 _ _ c3
theorem Sf.take{W:World}{a:Option Addr}{n cap:Nat}{l:List Fd}(h:Sf W (.slice a n cap) l){k:Nat}(hk:k<=l.length):Sf W (.slice a k cap) (l.take k):=by
 obtain⟨a',c,h1,h2,h3,h4,h5⟩:=h;simp only[Value.slice.injEq]at h1;obtain⟨rfl,_,rfl⟩:=h1;have hl:(l.take k).length=k:=by rw[jdo];omega
 refine⟨_,cap,by rw[hl],by omega,h3,h4,fun h0=>?_⟩;obtain⟨b',off',h6,h7,h8⟩:=h5 (by omega);refine⟨b',off',h6,h7,fun j x hj=>h8 j x ?_⟩;rw[GX,List.getElem?_take]at hj;split at hj
 ·exact hj
 ·cases hj
def dT(W:World)(B:Nat)(v:Value)(l:List Fd):Prop:=W.ownsRow B 81 4 v l.length (eD l)
theorem dT.nil(W:World)(B:Nat):dT W B (.slice none 0 0) []:=jd8 _ _ _ _
theorem dT.kept{w w':World}{B:Nat}{v:Value}{l:List Fd}(h:dT w B v l)(hb:Below w.heap.size w w'):dT w' B v l:=bI h hb
theorem dT.low{W:World}{B B':Nat}{v:Value}{l:List Fd}(h:dT W B' v l)(hb:B<=B'):dT W B v l:=be h hb
theorem dT.sf{W:World}{B:Nat}{v:Value}{l:List Fd}(h:dT W B v l):Sf W v l:=by
 rcases h with ⟨h0,⟨rfl,h1⟩ | ⟨g,cap,cur,rfl,h2,h3,h4,h5,h6,h7⟩⟩
 ·refine⟨none,0,by rw[h1],by omega,by unfold maxLen;omega,fun _=>rfl,fun h=>by omega⟩
 ·refine⟨_,cap,rfl,h4,h5,fun h=>by(cases h),fun _=>⟨g,0,rfl,(Array.getElem?_eq_some_iff.1 h3).1,fun j x hj=>?_⟩⟩
  rw[jdK];simp only[World.cell?,h3];rw[← h7]at hj;have aC:=(List.getElem?_eq_some_iff.1 hj).1;rw[jdo]at aC;rw[List.getElem?_take_of_lt (by omega)]at hj;simpa using hj
theorem pX(w:World)(l:List Fd)(hl:l.length<=maxLen):dT (w.alloc (.cells (eD l).toArray 81)) w.heap.size (.slice (some ⟨w.heap.size,0,none⟩) l.length l.length) l:=by
 have:=jer (e:=81) (size:=4) w (eD l).toArray l.length (base:=w.heap.size) (jdh _) hl (by simp[iq]);exact this
theorem Sa:(Tryz.prog.info? 81).map (fun i=>(i.zero,i.size,i.bytes))=some (some (.agg #[.int .u32 0,.string ⟨#[]⟩,.int .u8 0,.bool false]),4,32):=by kernel_rfl
theorem sM{w:World}{ops:Array Oper}{rest:List Oper}{o:Oper}{a:Act}{Q:Exit->Act->World->Prop}(eg:o.guard=none)(s x:Operand)
  (ho:o.op=.call { callee:=.builtin .append,args:=#[s,x],argTypes:=#[23,23] })
  (base:Nat) (v vx:Value) (l0 l:List Fd) (hs:a.eval s=v) (aA:dT w base v l0) (hx:a.eval x=vx) (ft:Sf w vx l)
  (hbytes:l0.length+l.length<=100000) (aI:base<=w.heap.size)
  (h:∀ v' w',dT w' base v' (l0++l)->Below base w w'->wpList Tryz.prog ops Q rest (a.put o.dst v') w') :
  wpList Tryz.prog ops Q (o::rest) a w:=by
 obtain⟨i0,hi,cm,hz1',bn⟩:=jdA Sa;unfold dT at *;obtain⟨ad,cap,rfl,h1,h2,h3,h4⟩:=ft;cases ad with
 | none =>
  have hc:=h3 rfl;subst hc;have hl:l=[]:=jdF (by omega);subst hl;refine wpList_plain eg fun K hK=>?_
  have hr:=jeJ (P:=Tryz.prog) (w:=w) base 23 o.type 81 i0 4 Tryz.underlying23 hi v l0.length (eD l0) aA;unfold Oper.wp execOp;simp only[ho,resolve,invoke,builtin,Sem.run_bind,Sem.run_pure,Result.andThen_ok,jes,jdQ,jed,hs,hx,hr,jdI];refine hK _ _ (h v w ?_ (jdg _ _));rw[jdB];exact aA
 | some ad =>
  refine jdU (w:=w) eg s x 23 ho base 81 i0 (.agg #[.int .u32 0,.string ⟨#[]⟩,.int .u8 0,.bool false]) 4 32 Tryz.underlying23 hi cm hz1' bn rfl (by decide) v l0.length (eD l0) hs aA ad l.length cap (eD l) hx (by rw[iq]) ?_ (pm _) (by unfold maxLen;omega) (by omega) aI ?_
  ·intro j u hu
   have hj:j<l.length*4:=by
    have:=(List.getElem?_eq_some_iff.1 hu).1;rwa[iq]at this
   obtain⟨b,off,h5,_,h6⟩:=h4 (by omega);cases h5
   rw[pI];exact h6 j u hu
  ·intro v' w' o1 g1 _ _
   refine h v' w' ?_ ((jdg base w).grown g1 aI (fun k hk=>(aA.lt k hk).1));rw[qY,jdj];exact o1
theorem AZ(w:World)(f:Fd):dT (w.alloc (.cells #[.int .u32 (f.1:Int),.string f.2.1,.int .u8 (f.2.2.1:Int),.bool f.2.2.2] 81)) w.heap.size (.slice (some ⟨w.heap.size,0,none⟩) 1 1) [f]:=pX w [f] (by unfold maxLen;simp)
theorem Ba(s t:ByteArray):(s.toList==t.toList)=decide (s=t):=by
 rw[jeI];simp only[beq_iff_eq,jd2];constructor
 ·intro h
  rw[ByteArray.toList_eq,ByteArray.toList_eq]at h;exact GH h
 ·intro h;rw[h]
def bM(S:World->Prop):Type:={x:World // S x}
def bM.w{S:World->Prop}(s:bM S):World:=s.val
theorem bM.ok{S:World->Prop}(s:bM S):S s.w:=s.property
def bM.mk{S:World->Prop}(x:World)(h:S x):bM S:=⟨x,h⟩
theorem cx{P:Program}{id:Nat}{Q:Exit->Act->World->Prop}{a:Act}{w:World}{l:List Oper}{S:World->Prop}(hm:P.follows .mixedOrders=true)(hB:Region.lexB .any l.toArray=true)(hS:S w.drew)
  (h:wpQuiet P l.toArray (fun w'=>∃ s:bM S,w'=s.w) (fun a'=>∀ w',(∃ s:bM S,w'=s.w)->Q .normal a' w') l a):(Code.region id l.toArray true).wp P Q a w :=
 wp_region_quiet (C:=fun w'=>∃ s:bM S,w'=s.w) hm hB ⟨bM.mk _ hS,rfl⟩ (by simpa using h)
end Go.Proofs.YtpljdjmpamjkhaaGreatDoor
