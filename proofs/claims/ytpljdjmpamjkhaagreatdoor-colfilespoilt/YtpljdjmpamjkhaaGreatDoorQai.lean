import Derived.Test.YtpljdjmpamjkhaaGreatDoorQah
import Derived.Deep.AppendLies
set_option linter.unusedVariables false
set_option linter.unusedSimpArgs false
set_option maxRecDepth 100000
set_option maxHeartbeats 8000000
namespace Go.Proofs.YtpljdjmpamjkhaaGreatDoor
open Go.RowKit Go.Lib
theorem dm(w:World)(o:Obj):Below w.heap.size w (w.alloc o):=(jej _ _).alloc (jek _) _
theorem Ev{x:Int}:∀{u:List Int} {k:Nat} (h:k<u.length),(∀ j (hj:j<k),u[j]'(by omega)≠x)->u[k]=x->pl u x=k
 | y::t,0,_,_,h=>by
  unfold pl;rw[jei (by simpa using h)]
 | y::t,k+1,hk,ha,h=>by
  have h0:=ha 0 (by omega);unfold pl;rw[jeh (by simpa using h0),Ev (u:=t) (k:=k) (by simpa using hk) (fun j hj=>by have:=ha (j+1) (by omega);simpa using this) (by simpa using h)]
theorem Ji{w:World}{v:Value}{u:List Int}(hs:Sv w v (aL u))(hl:u.length<=256)(x:Int)(hx:x∈u) :
  Calls Tryz.prog 177 #[v,.int .i64 x] w fun e w'=>e=.returned (.int .u64 (pl u x:Int))/\w'=w:=by
 have HS:=ae hs;have kV:=wQ hx;have HP:=ae kV;obtain⟨a,cap,rfl,aW,bC⟩:=hs.form;have HF:jgf (∀ k (h:k<u.length),(∀ j (hj:j<k),u[j]'(by omega)≠x)->u[k]=x->pl u x=k):=fun k h h1 h2=>Ev h h1 h2
 clear hs aW bC kV hx;go_enter Tryz.func177,Tryz.ntmps177
 go_wp2_with fail;go_loopw [5] (fun i wr=>wr=w/\∃ k:Nat,k<=u.length/\i=.int .i64 (k:Int)/\∀ j (hj:j<k) (h:j<u.length),u[j]≠x) (fun i _=>u.length-(intOf i).toNat)
 case atStart=>exact⟨rfl,0,by omega,rfl,fun j h=>by omega⟩
 case round =>
  obtain⟨rfl,k,hk,rfl,cZ⟩:=hrel;have HL:=ae cZ;clear cZ;by_cases aB:k<u.length
  ·have nc:(k:Int)<(u.length:Int):=by omega
   obtain⟨b,off,rfl,_,dN⟩:=HS.o.at aB;by_cases he:(u[k]==x)=true
   ·have HE:=ae (HF.o k aB (fun j hj=>HL.o j hj (by omega)) (by simpa using he))
    generalize u[k]=y at *;go_wp2_with fail;go_ret
    rw[HE.o];exact⟨rfl,rfl⟩
   ·have hef:(u[k]==x)=false:=by simpa using he
    have HN:jgf (∀ j (hj:j<k+1) (h:j<u.length),u[j]≠x):=by
     intro j hj h;rcases jeM j k with h1 | h1
     ·exact HL.o j h1 h
     ·have:j=k:=by omega
      subst this;simpa using he
    clear he;generalize u[k]=y at *;go_wp2_with fail;go_roundw
    case rel=>exact⟨trivial,k+1,by omega,by go_num,HN.o⟩
    case measure=>simp[intOf];omega
  ·exfalso
   obtain⟨h1,h2⟩:=HP.o;rw[List.getElem?_eq_getElem h1]at h2;exact HL.o (pl u x) (by omega) h1 (Option.some.inj h2)
def lq(x:Int)(u pre:List Int)(d:Bool)(k:Nat):Prop:=pre++(if d then u.drop k else ins x (u.drop k))=ins x u
theorem lq.step{x:Int}{u pre:List Int}{d:Bool}{k:Nat}(h:lq x u pre d k)(hk:k<u.length) :
  (d=true->lq x u (pre++[u[k]]) true (k+1))/\(d=false->u[k]=x->lq x u (pre++[u[k]]) true (k+1))/\(d=false->x<u[k]->lq x u ((pre++[x])++[u[k]]) true (k+1))/\(d=false->u[k]≠x->¬ x<u[k]->lq x u (pre++[u[k]]) false (k+1)):=by
 unfold lq at *;rw[je1 hk]at h;refine⟨fun hd=>?_,fun hd he=>?_,fun hd he=>?_,fun hd he hn=>?_⟩
 ·subst hd
  rw[jei rfl]at h ⊢;rw[← h];simp
 ·subst hd
  rw[jeh (by simp),ins,jei he.symm]at h;rw[jei rfl,← h];simp
 ·subst hd
  rw[jeh (by simp),ins,jeh (by omega),jei he]at h;rw[jei rfl,← h];simp
 ·subst hd
  rw[jeh (by simp),ins,jeh (fun e=>he e.symm),jeh hn]at h;rw[jeh (by simp),← h];simp
theorem lq.last{x:Int}{u pre:List Int}{d:Bool}(h:lq x u pre d u.length):(d=true->pre=ins x u)/\(d=false->pre++[x]=ins x u):=by
 unfold lq at h;rw[jfg]at h;refine⟨fun hd=>?_,fun hd=>?_⟩
 ·subst hd
  simpa using h
 ·subst hd
  simpa [ins]using h
theorem lq.len{x:Int}{u pre:List Int}{d:Bool}{k:Nat}(h:lq x u pre d k):pre.length<=u.length+1:=by
 unfold lq at h;have h1:=jep List.length h;have h2:=qa (x:=x) (u:=u);rw[jem]at h1;omega
theorem xq{w:World}{v:Value}{l:List Int}(hs:Sv w v (aL l))(hl:l.length<=256) :
  Calls Tryz.prog 176 #[v] w fun e w'=>(∃ v',e=.returned v'/\bF w' w.heap.size v' (cI l))/\Below w.heap.size w w':=by
 have HS:=ae hs;obtain⟨a,cap,rfl,aW,bC⟩:=hs.form;clear hs aW bC;go_enter Tryz.func176,Tryz.ntmps176
 go_wp2_with fail;go_loopw [3,4] (fun vo i wr=>∃ k:Nat,k<=l.length/\i=.int .i64 (k:Int)/\bF wr w.heap.size vo (cI (l.take k))/\Below w.heap.size w wr) (fun _ i _=>l.length-(intOf i).toNat)
 case atStart=>exact⟨0,by omega,rfl,bF.nil _ _,jej _ _⟩
 case round =>
  obtain⟨i,hi,rfl,how,az⟩:=hrel;have HO:=ae how;have HB:=ae az;have bH:=az.size;obtain⟨ao,co,rfl⟩:=how.len;clear how az;by_cases aB:i<l.length
  ·have nc:(i:Int)<(l.length:Int):=by omega
   have HU:=ae (wP aB);have vK:=fN (l.take i);rw[jeq]at vK;obtain⟨bl,offl,rfl,fK,eX⟩:=(HS.o.kept HB.o).at aB;generalize l[i]=x at *;generalize cI (l.take i)=u at *;have VA:u.length<=256:=(by omega);generalize wr=W1 at *;go_wp2_with fail;go_loopw [5,6,7] (fun vn vd j wq=>∃(k:Nat) (pre:List Int) (d:Bool),k<=u.length/\j=.int .i64 (k:Int)/\vd=.bool d/\bF wq W1.heap.size vn pre/\lq x u pre d k/\Below W1.heap.size W1 wq) (fun _ _ j _=>u.length-(intOf j).toNat)
   case atStart=>exact⟨0,[],false,by omega,rfl,rfl,bF.nil _ _,rfl,jej _ _⟩
   case round =>
    obtain⟨k,pre,d,hk,rfl,rfl,hon,hia,vP⟩:=hrel;have AP:=ae hon;have HIA:=ae hia;have pu:=ae vP;have zl:=vP.size;have kV:=hia.len;obtain⟨an,cn,rfl⟩:=hon.len;clear hon hia vP;have fx:jgf (∀ n z,Below W1.heap.size W1 ((wr.drewN n).alloc (.cells #[.int .i64 z] 2))):=fun n z=>(ar pu.o n).alloc zl _
    have Lg:jgf (∀ n z,W1.heap.size<=((wr.drewN n).alloc (.cells #[.int .i64 z] 2)).heap.size):=fun n z=>by rw[jel];exact Nat.le_succ_of_le zl
    have nE:jgf (∀ n z,bF ((wr.drewN n).alloc (.cells #[.int .i64 z] 2)) W1.heap.size (.slice an pre.length cn) pre):=fun n z=>(AP.o.kept (ar (jej _ _) n)).kept (dm _ _)
    by_cases oF:k<u.length
    ·have jcg:(k:Int)<(u.length:Int):=by omega
     obtain⟨b2,off2,AQ,aE,Gu⟩:=HO.o.sv.at oF;cases AQ
     have ke:=(pu.o.cell (p:=⟨b2,off2+k,none⟩) aE).trans Gu;have jch:=(pu.o.cell (p:=⟨bl,offl+i,none⟩) fK).trans eX;have HSt:=ae (HIA.o.step oF);have jci:=ae Gu;clear HIA Gu;generalize u[k]=y at *;cases d with
     | true =>
      have sK:=ae (HSt.o.1 rfl);by_cases Lh:(y==x)=true
      ·go_wp2_with fail
       go_quiet (fail)
       go_wp2_with fail;go_quiet (fail)
       go_wp2_with (first | (at_builtin;refine aY rfl _ _ rfl W1.heap.size _ _ y pre rfl (nE.o _ y) rfl (aK _ _ _) ?c2 ?c3 ?_))
       case c2=>omega
       case c3=>first | omega | exact Lg.o _ _
       intro v7 w7 o7 b7;have iI:=ae o7;have ir:=ae ((fx.o _ y).trans b7);clear o7 b7;go_wp2_with fail;go_roundw
       case rel=>exact⟨k+1,_,true,by omega,by go_num,rfl,iI.o,sK.o,ir.o⟩
       case measure=>simp[intOf];omega
      ·have jcj:(y==x)=false:=by simpa using Lh
       clear Lh;go_wp2_with fail;go_quiet (fail)
       go_wp2_with fail;go_quiet (fail)
       go_wp2_with (first | (at_builtin;refine aY rfl _ _ rfl W1.heap.size _ _ y pre rfl (nE.o _ y) rfl (aK _ _ _) ?c2 ?c3 ?_))
       case c2=>omega
       case c3=>first | omega | exact Lg.o _ _
       intro v7 w7 o7 b7;have iI:=ae o7;have ir:=ae ((fx.o _ y).trans b7);clear o7 b7;go_wp2_with fail;go_roundw
       case rel=>exact⟨k+1,_,true,by omega,by go_num,rfl,iI.o,sK.o,ir.o⟩
       case measure=>simp[intOf];omega
     | false =>
      by_cases Lh:(y==x)=true
      ·have sK:=ae (HSt.o.2.1 rfl (by simpa using Lh))
       go_wp2_with fail;go_quiet (fail)
       go_wp2_with fail;go_quiet (fail)
       go_wp2_with (first | (at_builtin;refine aY rfl _ _ rfl W1.heap.size _ _ y pre rfl (nE.o _ y) rfl (aK _ _ _) ?c2 ?c3 ?_))
       case c2=>omega
       case c3=>first | omega | exact Lg.o _ _
       intro v7 w7 o7 b7;have iI:=ae o7;have ir:=ae ((fx.o _ y).trans b7);clear o7 b7;go_wp2_with fail;go_roundw
       case rel=>exact⟨k+1,_,true,by omega,by go_num,rfl,iI.o,sK.o,ir.o⟩
       case measure=>simp[intOf];omega
      ·have jcj:(y==x)=false:=by simpa using Lh
       have Li:y≠x:=by simpa using Lh
       clear Lh;by_cases Di:x<y
       ·have jck:decide (x<y)=true:=jeB Di
        have sK:=ae (HSt.o.2.2.1 rfl Di);clear Li;go_wp2_with fail;go_quiet (fail)
        go_wp2_with fail;go_quiet (fail)
        go_wp2_with (first | (at_builtin;refine aY rfl _ _ rfl W1.heap.size _ _ x pre rfl (nE.o _ x) rfl (aK _ _ _) ?c2 ?c3 ?_))
        case c2=>omega
        case c3=>first | omega | exact Lg.o _ _
        intro v6 w6 o6 b6;have my:=ae o6;have gW:=ae ((fx.o _ x).trans b6);have hc6:=(gW.o.cell (p:=⟨b2,off2+k,none⟩) aE).trans jci.o;have Gq:=gW.o.size;have AV:=ae (o6.kept (dm w6 (.cells #[.int .i64 y] 2)));clear o6 b6;go_wp2_with (first | (at_builtin;refine aY rfl _ _ rfl W1.heap.size _ _ y (pre++[x]) rfl AV.o rfl (aK _ _ _) ?c2 ?c3 ?_))
        case c2=>simp;omega
        case c3=>first | omega | (rw[jel];omega)
        intro v7 w7 o7 b7;have o7':bF w7 W1.heap.size v7 (pre++[x]++[y]):=by simpa using o7
        have iI:=ae o7';have ir:=ae ((gW.o.alloc Gq (.cells #[.int .i64 y] 2)).trans b7);clear o7 o7' b7;go_wp2_with fail;go_roundw
        case rel=>exact⟨k+1,_,true,by omega,by go_num,rfl,iI.o,sK.o,ir.o⟩
        case measure=>simp[intOf];omega
       ·have jck:decide (x<y)=false:=jeu Di
        have sK:=ae (HSt.o.2.2.2 rfl Li Di);clear Li;go_wp2_with fail;go_quiet (fail)
        go_wp2_with fail;go_quiet (fail)
        go_wp2_with (first | (at_builtin;refine aY rfl _ _ rfl W1.heap.size _ _ y pre rfl (nE.o _ y) rfl (aK _ _ _) ?c2 ?c3 ?_))
        case c2=>omega
        case c3=>first | omega | exact Lg.o _ _
        intro v7 w7 o7 b7;have iI:=ae o7;have ir:=ae ((fx.o _ y).trans b7);clear o7 b7;go_wp2_with fail;go_roundw
        case rel=>exact⟨k+1,_,false,by omega,by go_num,rfl,iI.o,sK.o,ir.o⟩
        case measure=>simp[intOf];omega
    ·obtain rfl:k=u.length:=by omega
     have jcg:¬ (u.length:Int)<(u.length:Int):=(by omega);have Re:=ae HIA.o.last;cases d with
     | true =>
      have e:=Re.o.1 rfl;have jcl:jgf (bF wr w.heap.size (.slice an pre.length cn) (cI (l.take (i+1)))):=ae (by rw[HU.o,← e];exact AP.o.low bH);clear e;go_wp2_with fail;go_roundw
      case rel=>exact⟨i+1,by omega,by go_num,jcl.o,HB.o.trans (pu.o.mono bH)⟩
      case measure=>simp[intOf];omega
     | false =>
      have HE:=ae (Re.o.2 rfl);have jch:=(pu.o.cell (p:=⟨bl,offl+i,none⟩) fK).trans eX;have zp:=ae (AP.o.kept (dm wr (.cells #[.int .i64 x] 2)));have tW:=ae (pu.o.alloc zl (.cells #[.int .i64 x] 2));go_wp2_with (first | (at_builtin;refine aY rfl _ _ rfl W1.heap.size _ _ x pre rfl zp.o rfl (aK _ _ _) ?c2 ?c3 ?_))
      case c2=>omega
      case c3=>first | omega | (rw[jel];omega)
      intro v7 w7 o7 b7;have iI:jgf (bF w7 w.heap.size v7 (cI (l.take (i+1)))):=ae (by rw[HU.o,← HE.o];exact o7.low bH);have ir:=ae (HB.o.trans ((tW.o.trans b7).mono bH));clear o7 b7;go_wp2_with fail;go_roundw
      case rel=>exact⟨i+1,by omega,by go_num,iI.o,ir.o⟩
      case measure=>simp[intOf];omega
  ·obtain rfl:i=l.length:=by omega
   have nc:¬ (l.length:Int)<(l.length:Int):=(by omega);rw[jes]at HO;go_wp2_with fail;go_ret
   exact⟨⟨_,rfl,HO.o⟩,HB.o⟩
def mP(bs:List Nat)(w:World)(e:Ending)(w':World):Prop:=(∃ v',e=.returned (.tuple #[v',.bool true])/\aD w' w.heap.size v' bs)/\Below w.heap.size w w'
theorem pI{w:World}{ops:Array Oper}{o:Oper}{a:Act}{K:Act->World->Prop}{Q:Exit->Act->World->Prop}{E:Prop}(dY:o.guard=none)(s x:Operand)
  (ho:o.op=.call { callee:=.builtin .append,args:=#[s,x],argTypes:=#[30,30] })
  (base B2:Nat) (v vx:Value) (l0 l:List Nat) (hs:a.eval s=v) (aA:aD w base v l0) (hx:a.eval x=vx) (eN:aD w B2 vx l) (hp:0<l.length)
  (hbytes:l0.length+l.length<=100000) (aI:base<=w.heap.size)
  (h:∀ v' w',aD w' base v' (l0++l)->Below base w w'->K (a.put o.dst v') w') :
  if Region.wanted o (yielded ops a.tmps)=true then Oper.wp Tryz.prog o a w K Q else E:=by
 obtain⟨i0,hi,ch,hz1',bv⟩:=jeD jv;obtain⟨g,cap,rfl,hB,hg⟩:=oZ eN hp;have hc:∀ j u,(aF .u8 l)[j]?=some u->w.cell? ((⟨g,0,none⟩:Addr).add j)=some u:=fun j u hj=>eN.cells (g:=g) rfl j u hj
 unfold aD at aA;refine step_append_lies (P:=Tryz.prog) w dY s x 30 ho base 5 i0 (.int .u8 0) 1 1 Tryz.underlying30 hi ch hz1' bv rfl (by decide) v l0.length (aF .u8 l0) hs aA ⟨g,0,none⟩ l.length cap (aF .u8 l) hx (by rw[ap];omega) hc (fY _ _) hp (by unfold maxLen;omega) (by omega) aI _ rfl ?_;intro g' cap' w' o1 g1 _ _;refine h _ w' ?_ ((jej base w).grown g1 aI (fun k hk=>(aA.lt k hk).1));unfold aD;rw[ct,jem];exact o1
theorem Ew{w:World}{v:Value}{l:List Int}(hs:Sv w v (aL l))(hl:l.length<=256)(hi:Is l) :
  Calls Tryz.prog 135 #[.int .i64 0,v] w (mP (gB l) w):=by
 have HI:=ae hi;have HS:=ae hs;obtain⟨a,cap,rfl,aW,bC⟩:=hs.form;have vZ:¬ (l.length:Int) > 256:=by omega
 clear hs hi aW bC;go_enter Tryz.func135,Tryz.ntmps135
 go_wp2_with fail;go_loopw [6,7] (fun b i wr=>∃ k:Nat,k<=l.length/\i=.int .i64 (k:Int)/\aD wr w.heap.size b (gB (l.take k))/\Below w.heap.size w wr) (fun _ i _=>l.length-(intOf i).toNat)
 case atStart=>exact⟨0,by omega,rfl,aD.nil _ _,jej _ _⟩
 case round =>
  obtain⟨k,hk,rfl,aA,az⟩:=hrel;have HO:=ae aA;have HB:=ae az;have bH:=az.size;clear aA az;by_cases aB:k<l.length
  ·have nc:(k:Int)<(l.length:Int):=by omega
   obtain⟨b,off,rfl,hb,dN⟩:=(HS.o.kept HB.o).at aB;have HX:=ae (HI.o.get aB);have HT:=ae (zW aB);have jG:=(mb (HI.o.take k)).1;rw[jeq]at jG;have Gl:=fC (HI.o.get aB);generalize l[k]=x at *;generalize gB (l.take k)=acc at *;go_wp2_with fail;refine(du HX.o _).mono ?_;rintro e w2 ⟨⟨v2,rfl,cB⟩,aE⟩;have dz:=ae cB;have HOk:=ae (HO.o.kept aE);have aN:=ae (HB.o.trans (aE.mono bH));have bv:=aE.size;clear cB aE;go_wp2_with (first | (at_builtin;refine ax rfl _ _ rfl w.heap.size _ _ acc (wv x) rfl HOk.o rfl dz.o.sv ?c1 ?c2 ?_))
   case c1=>omega
   case c2=>omega
   intro v3 w3 o3 b3;have dd:=ae o3;have bN:=ae (aN.o.trans b3);clear o3 b3;go_wp2_with fail;go_roundw
   case rel=>exact⟨k+1,by omega,by go_num,by rw[HT.o];exact dd.o,bN.o⟩
   case measure=>simp[intOf];omega
  ·obtain rfl:k=l.length:=by omega
   have nc:¬ (l.length:Int)<(l.length:Int):=(by omega);rw[jes]at HO;go_wp2_with fail;go_ret2
   exact⟨⟨_,rfl,HO.o⟩,HB.o⟩
theorem Ex{w:World}{v:Value}{l:List Int}(hs:Sv w v (aL l))(hl:l.length<=256)(hi:Is l) :
  Calls Tryz.prog 135 #[.int .i64 1,v] w (mP (iP 0 l) w):=by
 have HI:=ae hi;have HS:=ae hs;obtain⟨a,cap,rfl,aW,bC⟩:=hs.form;have vZ:¬ (l.length:Int) > 256:=by omega
 clear hs hi aW bC;go_enter Tryz.func135,Tryz.ntmps135
 go_wp2_with fail;go_loopw [6,8] (fun b i wr=>∃ k:Nat,k<=l.length/\i=.int .i64 (k:Int)/\aD wr w.heap.size b (iP 0 (l.take k))/\Below w.heap.size w wr) (fun _ i _=>l.length-(intOf i).toNat)
 case atStart=>exact⟨0,by omega,rfl,aD.nil _ _,jej _ _⟩
 case round =>
  obtain⟨k,hk,rfl,aA,az⟩:=hrel;have HO:=ae aA;have HB:=ae az;have bH:=az.size;clear aA az;by_cases aB:k<l.length
  ·have nc:(k:Int)<(l.length:Int):=by omega
   obtain⟨b,off,rfl,hb,CT⟩:=HS.o.at aB;have dN:=(HB.o.cell (p:=⟨b,off+k,none⟩) hb).trans CT;clear CT;have HX:=ae (jq (l[k]-ahd l k));have HT:=ae (zY aB);have jG:=(oS (l:=l.take k) (last:=0)).1;rw[jeq]at jG;have Gl:=fC (jq (l[k]-ahd l k));have tQ:=ja4 (w64 (l[k]-ahd l k));cases k with
   | zero =>
    have e0:w64 (l[0]-ahd l 0)=l[0]:=by
     unfold ahd;rw[jei rfl,Int.sub_zero,RZ (HI.o.get aB)]
    rw[e0]at HX HT Gl tQ;rw[je9]at dN;clear e0;generalize iP 0 (l.take 0)=acc at *;generalize l[0]=x at *;go_wp2_with fail;refine(du HX.o _).mono ?_;rintro e w2 ⟨⟨v2,rfl,cB⟩,aE⟩;have dz:=ae cB;have HOk:=ae (HO.o.kept aE);have aN:=ae (HB.o.trans (aE.mono bH));have bv:=aE.size;clear cB aE;go_wp2_with (first | (at_builtin;refine ax rfl _ _ rfl w.heap.size _ _ acc (wv x) rfl HOk.o rfl dz.o.sv ?c1 ?c2 ?_))
    case c1=>omega
    case c2=>omega
    intro v3 w3 o3 b3;have dd:=ae o3;have bN:=ae (aN.o.trans b3);clear o3 b3;go_wp2_with fail;go_roundw
    case rel=>exact⟨1,by omega,by go_num,by rw[HT.o];exact dd.o,bN.o⟩
    case measure=>simp[intOf];omega
   | succ k =>
    obtain⟨b',off',AQ,_,YR⟩:=(HS.o.kept HB.o).at (show k<l.length by omega);cases AQ
    rw[Ek (show k<l.length by omega)]at HX HT Gl tQ;have h1:=HI.o.get aB;have h2:=HI.o.get (show k<l.length by omega);have qB:(((k+1:Nat):Int)==0)=false:=jev.2 (by omega);have qA:((k+1:Nat):Int)-1=(k:Int):=(by omega);have hj1:(0:Int)<=(k:Int)+1:=(by omega);have Mw:(k:Int)+1<(l.length:Int):=(by omega);have hj3:((k:Int)+1).toNat=k+1:=(by omega);have hj4:(0:Int)<=(k:Int):=(by omega);have hj5:(k:Int)<(l.length:Int):=(by omega);have hj6:IntKind.i64.wrap ((k:Int)+1-1)=(k:Int):=by rw[jeV];omega
    have hj7:(k:Int)+1-1=(k:Int):=(by omega);have Rb:IntKind.i64.wrap (k:Int)=(k:Int):=by rw[jeV];omega
    obtain⟨X,hX⟩:∃ X,IntKind.u64.wrap l[k+1]=X:=⟨_,rfl⟩;obtain⟨Y,hY⟩:∃ Y,IntKind.u64.wrap l[k]=Y:=⟨_,rfl⟩;obtain⟨Z,hZ⟩:∃ Z,IntKind.u64.wrap (X-Y)=Z:=⟨_,rfl⟩
    have hD:IntKind.i64.wrap Z=w64 (l[k+1]-l[k]):=by
     rw[← hZ,← hX,← hY,← rB,jeV,jeV,jeP,jeP,jeP];omega
    clear h1 h2;generalize l[k+1]=x at *;generalize l[k]=y at *;generalize iP 0 (l.take (k+1))=acc at *;generalize w64 (x-y)=d at *
    have et:jgf (∀ n W',Below wr.heap.size (wr.drewN n) W'->W'.cell? ⟨b,off+(k+1),none⟩=some (.int .i64 x)/\W'.cell? ⟨b,off+k,none⟩=some (.int .i64 y)/\aD W' w.heap.size u6 acc/\Below w.heap.size w W'/\w.heap.size<=W'.heap.size):=ae (fun n W' h=>by
     have hb':Below wr.heap.size wr W':=(ar (jej _ _) n).trans h;have lC:=HB.o.trans (hb'.mono bH);exact⟨(hb'.cell (p:=⟨b,off+(k+1),none⟩) (jeH hb bH)).trans dN,(hb'.cell (p:=⟨b,off+k,none⟩) (jeH hb bH)).trans YR,HO.o.kept hb',lC,lC.size⟩)
    go_wp2_with fail
    go_region_held3 (fun w'=>w'.cell? ⟨b,off+(k+1),none⟩=some (.int .i64 x)/\w'.cell? ⟨b,off+k,none⟩=some (.int .i64 y)) (go_keep) (first
     | (go_at_call 137;refine(du HX.o _).mono ?_;rintro e w2 ⟨⟨v2,rfl,cB⟩,aE⟩;obtain⟨Lj,oD,hm3,hm4,hm5⟩:=et.o _ _ aE;have VB:=ae hm3;have Qy:=ae hm4;have dz:=ae cB;clear aE hm3 hm4 cB)
     | (refine pI (by rfl) _ _ (by rfl) w.heap.size _ _ _ acc (wv d) (by rfl) VB.o (by rfl) dz.o tQ (by omega) hm5 ?_;intro v3 w3 o3 b3;have sN:=(b3.cell (p:=⟨b,off+(k+1),none⟩) hb).trans Lj;have nw:=(b3.cell (p:=⟨b,off+k,none⟩) hb).trans oD;have dd:=ae o3;have bN:=ae (Qy.o.trans b3);clear o3 b3))
    all_goals go_wp2_with fail
    all_goals go_roundw
    case rel=>exact⟨k+1+1,by omega,by go_num,by rw[HT.o];exact dd.o,bN.o⟩
    case measure=>simp[intOf];omega
  ·obtain rfl:k=l.length:=by omega
   have nc:¬ (l.length:Int)<(l.length:Int):=(by omega);rw[jes]at HO;go_wp2_with fail;go_ret2
   exact⟨⟨_,rfl,HO.o⟩,HB.o⟩
def kE(l:List Int)(k c:Nat)(acc:List Nat):Prop:=(∀ h:k<l.length,acc++fM l[k] (c+1) (l.drop (k+1))=iA l)/\(k=l.length->c=0/\acc=iA l)
theorem kE.start(l:List Int):kE l 0 0 []:=by
 cases l with
 | nil=>exact⟨fun h=>by simp at h,fun _=>⟨rfl,rfl⟩⟩
 | cons x t=>exact⟨fun _=>rfl,fun h=>by simp at h⟩
theorem kE.more{l:List Int}{k c:Nat}{acc:List Nat}(h:kE l k c acc)(hk:k+1<l.length)(he:l[k+1]=l[k]):kE l (k+1) (c+1) acc:=by
 refine⟨fun _=>?_,fun e=>by omega⟩;have:=h.1 (by omega);rw[je1 hk,fM,jei he]at this;rw[he];exact this
theorem kE.turn{l:List Int}{k c:Nat}{acc:List Nat}(h:kE l k c acc)(hk:k+1<l.length)(he:l[k+1]≠l[k]):kE l (k+1) 0 (acc++(wv l[k]++uv (c+1))):=by
 refine⟨fun _=>?_,fun e=>by omega⟩;have:=h.1 (by omega);rw[je1 hk,fM,jeh he]at this;rw[← this];simp
theorem kE.last{l:List Int}{k c:Nat}{acc:List Nat}(h:kE l k c acc)(hk:k<l.length)(he:k+1=l.length):kE l (k+1) 0 (acc++(wv l[k]++uv (c+1))):=by
 refine⟨fun _=>by omega,fun _=>⟨rfl,?_⟩⟩;have:=h.1 hk;rw[List.drop_of_length_le (by omega),fM]at this;exact this
theorem kE.len{l:List Int}{k c:Nat}{acc:List Nat}(h:kE l k c acc)(hk:k<=l.length):acc.length<=(iA l).length:=by
 rcases jeM k l.length with hl | hl
 ·have:=jep List.length (h.1 hl)
  rw[jem]at this;omega
 ·have:=(h.2 (by omega)).2
  rw[this];exact jek _
theorem Ey{w:World}{v:Value}{l:List Int}(hs:Sv w v (aL l))(hl:l.length<=256)(hi:Is l) :
  Calls Tryz.prog 135 #[.int .i64 2,v] w (mP (iA l) w):=by
 have HI:=ae hi;have HS:=ae hs;have jG:=Ab hi hl;obtain⟨a,cap,rfl,aW,bC⟩:=hs.form;have vZ:¬ (l.length:Int) > 256:=by omega
 clear hs hi aW bC;go_enter Tryz.func135,Tryz.ntmps135
 go_wp2_with fail;go_loopw [6,9,10] (fun b cv i wr=>∃(k c:Nat) (acc:List Nat),k<=l.length/\c<=k/\i=.int .i64 (k:Int)/\cv=.int .i64 (c:Int)/\aD wr w.heap.size b acc/\kE l k c acc/\Below w.heap.size w wr) (fun _ _ i _=>l.length-(intOf i).toNat)
 case atStart=>exact⟨0,0,[],by omega,by omega,rfl,rfl,aD.nil _ _,kE.start l,jej _ _⟩
 case round =>
  obtain⟨k,c,acc,hk,CT,rfl,rfl,aA,hra,az⟩:=hrel;have HO:=ae aA;have HB:=ae az;have HRA:=ae hra;have hacl:=hra.len hk;have bH:=az.size;clear aA az hra;by_cases aB:k<l.length
  ·have nc:(k:Int)<(l.length:Int):=by omega
   obtain⟨b,off,rfl,hb,oE⟩:=HS.o.at aB;have lK:=(HB.o.cell (p:=⟨b,off+k,none⟩) hb).trans oE;have HX:=ae (HI.o.get aB);have Gl:=fC (HI.o.get aB);have Vv:=bO (n:=c+1) (by omega);obtain⟨d,hd⟩:∃ d,c+1=d:=⟨_,rfl⟩;have oG:(c:Int)+1=(d:Int):=(by omega);have hd256:d<=256:=(by omega);have hdk:d<=k+1:=(by omega);rw[hd]at Vv;by_cases uT:k+1=l.length
   ·have hdl:((k:Int)==(l.length:Int)-1)=true:=beq_iff_eq.2 (by omega)
    have jn:=ae (HRA.o.last aB uT);rw[hd]at jn;clear uT oE hd CT;generalize l[k]=x at *;go_wp2_with fail;go_quiet (fail)
    go_wp2_with fail;refine(du HX.o _).mono ?_;rintro e w2 ⟨⟨v2,rfl,cB⟩,aE⟩;have dz:=ae cB;have HOk:=ae ((HO.o.kept (ar (jej _ _) nq)).kept aE);have aN:=ae ((ar HB.o nq).trans (aE.mono bH));have bv:=aN.o.size;clear cB aE;go_wp2_with (first | (at_builtin;refine ax rfl _ _ rfl w.heap.size _ _ acc (wv x) rfl HOk.o rfl dz.o.sv ?c1 ?c2 ?_))
    case c1=>omega
    case c2=>omega
    intro v3 w3 o3 b3;have dd:=ae o3;have bN:=ae (aN.o.trans b3);have iN:=bN.o.size;clear o3 b3;go_wp2_with fail;refine(bK d (by omega) _).mono ?_;rintro e w4 ⟨⟨v4,rfl,uS⟩,bG⟩;have eY:=ae uS;have HOk4:=ae (dd.o.kept bG);have cp:=ae (bN.o.trans (bG.mono iN));have KR:=cp.o.size;clear uS bG;go_wp2_with (first | (at_builtin;refine ax rfl _ _ rfl w.heap.size _ _ (acc++wv x) (uv d) rfl HOk4.o rfl eY.o.sv ?c3 ?c4 ?_))
    case c3=>simp;omega
    case c4=>omega
    intro v5 w5 o5 b5;have o5':aD w5 w.heap.size v5 (acc++(wv x++uv d)):=by simpa using o5
    have df:=ae o5';have aQ:=ae (cp.o.trans b5);clear o5 o5' b5;go_wp2_with fail;go_roundw
    case rel=>exact⟨k+1,0,_,by omega,by omega,by go_num,rfl,df.o,jn.o,aQ.o⟩
    case measure=>simp[intOf];omega
   ·have qA:k+1<l.length:=by omega
    have hdl:((k:Int)==(l.length:Int)-1)=false:=jev.2 (by omega);have hj1:(k:Int)+1<(l.length:Int):=(by omega);obtain⟨b',off',AQ,_,ke⟩:=HS.o.at qA;cases AQ
    have Lk:=(HB.o.cell (p:=⟨b,off+(k+1),none⟩) hb).trans ke;by_cases he:l[k+1]=l[k]
    ·have jn:=ae (HRA.o.more qA he)
     rw[hd]at jn;have Zb:(l[k+1] != l[k])=false:=by simpa using he
     clear uT oE hd CT ke he;generalize l[k]=x at *;generalize l[k+1]=y at *;go_wp2_with fail;go_quiet (fail)
     go_wp2_with fail;go_roundw
     case rel=>exact⟨k+1,d,acc,by omega,by omega,by go_num,rfl,HO.o.kept (ar (jej _ _) nq),jn.o,ar HB.o nq⟩
     case measure=>simp[intOf];omega
    ·have jn:=ae (HRA.o.turn qA he)
     rw[hd]at jn;have Zb:(l[k+1] != l[k])=true:=by simpa using he
     clear uT oE hd CT ke he;generalize l[k]=x at *;generalize l[k+1]=y at *;go_wp2_with fail;go_quiet (fail)
     go_wp2_with fail;refine(du HX.o _).mono ?_;rintro e w2 ⟨⟨v2,rfl,cB⟩,aE⟩;have dz:=ae cB;have HOk:=ae ((HO.o.kept (ar (jej _ _) nq)).kept aE);have aN:=ae ((ar HB.o nq).trans (aE.mono bH));have bv:=aN.o.size;clear cB aE;go_wp2_with (first | (at_builtin;refine ax rfl _ _ rfl w.heap.size _ _ acc (wv x) rfl HOk.o rfl dz.o.sv ?c1 ?c2 ?_))
     case c1=>omega
     case c2=>omega
     intro v3 w3 o3 b3;have dd:=ae o3;have bN:=ae (aN.o.trans b3);have iN:=bN.o.size;clear o3 b3;go_wp2_with fail;refine(bK d (by omega) _).mono ?_;rintro e w4 ⟨⟨v4,rfl,uS⟩,bG⟩;have eY:=ae uS;have HOk4:=ae (dd.o.kept bG);have cp:=ae (bN.o.trans (bG.mono iN));have KR:=cp.o.size;clear uS bG;go_wp2_with (first | (at_builtin;refine ax rfl _ _ rfl w.heap.size _ _ (acc++wv x) (uv d) rfl HOk4.o rfl eY.o.sv ?c3 ?c4 ?_))
     case c3=>simp;omega
     case c4=>omega
     intro v5 w5 o5 b5;have o5':aD w5 w.heap.size v5 (acc++(wv x++uv d)):=by simpa using o5
     have df:=ae o5';have aQ:=ae (cp.o.trans b5);clear o5 o5' b5;go_wp2_with fail;go_roundw
     case rel=>exact⟨k+1,0,_,by omega,by omega,by go_num,rfl,df.o,jn.o,aQ.o⟩
     case measure=>simp[intOf];omega
  ·obtain rfl:k=l.length:=by omega
   have nc:¬ (l.length:Int)<(l.length:Int):=(by omega);have dz:jgf (aD wr w.heap.size u6 (iA l)):=ae (by rw[← (HRA.o.2 rfl).2];exact HO.o);go_wp2_with fail;go_ret2
   exact⟨⟨_,rfl,dz.o⟩,HB.o⟩
def xr(f:Fd):List Value:=[.int .u32 (f.1:Int),.string f.2.1,.int .u8 (f.2.2.1:Int),.bool f.2.2.2]
def qk(f:Fd):Value:=.agg #[.int .u32 (f.1:Int),.string f.2.1,.int .u8 (f.2.2.1:Int),.bool f.2.2.2]
def eJ(l:List Fd):List Value:=l.flatMap xr
theorem rD(a b:List Fd):eJ (a++b)=eJ a++eJ b:=jfw
theorem kF(c:Fd)(l:List Fd):eJ (c::l)=xr c++eJ l:=jfG
theorem gh:∀ l:List Fd,(eJ l).length=l.length*4
 | []=>rfl
 | c::t=>by
  rw[kF,jem,gh t,jer];simp[xr]
  omega
theorem ti:∀{l:List Fd} {j:Nat} (h:j<l.length),(eJ l)[j*4]?=some (.int .u32 (l[j].1:Int))/\(eJ l)[j*4+1]?=some (.string l[j].2.1)/\(eJ l)[j*4+2]?=some (.int .u8 (l[j].2.2.1:Int))/\(eJ l)[j*4+3]?=some (.bool l[j].2.2.2)
 | c::t,0,h=>by simp[kF,xr]
 | c::t,j+1,h=>by
  have ih:=ti (l:=t) (j:=j) (by simpa using h);rw[kF]
  have e:∀ k,(xr c++eJ t)[(j+1)*4+k]?=(eJ t)[j*4+k]?:=fun k=>by
   rw[List.getElem?_append_right (by simp[xr];omega)];simp only[xr,jer,jeL];congr 1
   omega
  have e0:=e 0;simp only[je9]at e0;rw[e0,e 1,e 2,e 3];simpa using ih
theorem BQ(f:Fd):∀ u∈xr f,u.oneCell'=true:=by
 intro u hu;unfold xr at hu;simp only[jeC,jf2,or_false]at hu;rcases hu with rfl | rfl | rfl | rfl<;>rfl
theorem pJ(l:List Fd):∀ u∈eJ l,u.oneCell'=true:=by
 intro u hu;obtain⟨f,_,h⟩:=List.mem_flatMap.1 hu;exact BQ f u h
theorem Jj(l:List Fd)(k:Nat):eJ (l.take k)=(eJ l).take (k*4):=by
 induction l generalizing k with
 | nil=>simp[eJ]
 | cons f t ih =>
  cases k with
  | zero=>simp[eJ]
  | succ k =>
   have hl:(xr f).length=4:=rfl;rw[jf3,kF,kF,ih,List.take_append,hl,je4 (l:=xr f) (by rw[hl];omega)];congr 2
   omega
def Sf(W:World)(v:Value)(l:List Fd):Prop :=
 ∃ a cap,v=.slice a l.length cap/\l.length<=cap/\cap<=maxLen/\(a=none->cap=0)/\(0<l.length->∃ b off,a=some ⟨b,off,none⟩/\b<W.heap.size/\∀ j x,(eJ l)[j]?=some x->W.cell? ⟨b,off+j,none⟩=some x)
theorem Sf.kept{W W':World}{v:Value}{l:List Fd}(h:Sf W v l)(hb:Below W.heap.size W W'):Sf W' v l:=by
 obtain⟨a,cap,h1,h2,h3,h0,h4⟩:=h;refine⟨a,cap,h1,h2,h3,h0,fun h0=>?_⟩;obtain⟨b,off,h5,h6,h7⟩:=h4 h0;exact⟨b,off,h5,jeH h6 hb.size,fun j x hj=>(hb.cell (p:=⟨b,off+j,none⟩) h6).trans (h7 j x hj)⟩
theorem Sf.nil(W:World):Sf W (.slice none 0 0) []:=⟨none,0,rfl,jek _,by unfold maxLen;omega,fun _=>rfl,fun h=>by simp at h⟩
theorem Sf.form{W:World}{v:Value}{l:List Fd}(h:Sf W v l):∃ a cap,v=.slice a l.length cap/\l.length<=cap/\cap<=9223372036854775807:=by
 obtain⟨a,cap,h1,h2,h3,_⟩:=h;exact⟨a,cap,h1,h2,by unfold maxLen at h3;omega⟩
theorem Sf.at{W:World}{a:Option Addr}{n cap:Nat}{l:List Fd}(h:Sf W (.slice a n cap) l){k:Nat}(hk:k<l.length) :
  ∃ b off,a=some ⟨b,off,none⟩/\b<W.heap.size/\W.cell? ⟨b,off+k*4,none⟩=some (.int .u32 (l[k].1:Int))/\W.cell? ⟨b,off+k*4+1,none⟩=some (.string l[k].2.1)/\W.cell? ⟨b,off+k*4+2,none⟩=some (.int .u8 (l[k].2.2.1:Int))/\W.cell? ⟨b,off+k*4+3,none⟩=some (.bool l[k].2.2.2):=by
 obtain⟨a',cap',e,h1,h2,h0,h4⟩:=h;simp only[Value.slice.injEq]at e;obtain⟨rfl,_,_⟩:=e;obtain⟨b,off,rfl,h5,h6⟩:=h4 (by omega);obtain⟨c0,c1,c2,c3⟩:=ti hk;refine⟨b,off,rfl,h5,h6 _ _ c0,?_,?_,?_⟩
 ·rw[jfr]
  exact h6 _ _ c1
 ·rw[jfr]
  exact h6 _ _ c2
 ·rw[jfr]
  exact h6 _ _ c3
theorem Sf.take{W:World}{a:Option Addr}{n cap:Nat}{l:List Fd}(h:Sf W (.slice a n cap) l){k:Nat}(hk:k<=l.length):Sf W (.slice a k cap) (l.take k):=by
 obtain⟨a',c,h1,h2,h3,h4,h5⟩:=h;simp only[Value.slice.injEq]at h1;obtain⟨rfl,_,rfl⟩:=h1;have hl:(l.take k).length=k:=by rw[jeq];omega
 refine⟨_,cap,by rw[hl],by omega,h3,h4,fun h0=>?_⟩;obtain⟨b',off',h6,h7,h8⟩:=h5 (by omega);refine⟨b',off',h6,h7,fun j x hj=>h8 j x ?_⟩;rw[Jj,List.getElem?_take]at hj;split at hj
 ·exact hj
 ·cases hj
def ea(W:World)(B:Nat)(v:Value)(l:List Fd):Prop:=W.ownsRow B 81 4 v l.length (eJ l)
theorem ea.nil(W:World)(B:Nat):ea W B (.slice none 0 0) []:=jfb _ _ _ _
theorem ea.kept{w w':World}{B:Nat}{v:Value}{l:List Fd}(h:ea w B v l)(hb:Below w.heap.size w w'):ea w' B v l:=bJ h hb
theorem ea.low{W:World}{B B':Nat}{v:Value}{l:List Fd}(h:ea W B' v l)(hb:B<=B'):ea W B v l:=bg h hb
theorem ea.sf{W:World}{B:Nat}{v:Value}{l:List Fd}(h:ea W B v l):Sf W v l:=by
 rcases h with ⟨h0,⟨rfl,h1⟩ | ⟨g,cap,cur,rfl,h2,h3,h4,h5,h6,h7⟩⟩
 ·refine⟨none,0,by rw[h1],by omega,by unfold maxLen;omega,fun _=>rfl,fun h=>by omega⟩
 ·refine⟨_,cap,rfl,h4,h5,fun h=>by(cases h),fun _=>⟨g,0,rfl,(Array.getElem?_eq_some_iff.1 h3).1,fun j x hj=>?_⟩⟩
  rw[jeO];simp only[World.cell?,h3];rw[← h7]at hj;have aB:=(List.getElem?_eq_some_iff.1 hj).1;rw[jeq]at aB;rw[List.getElem?_take_of_lt (by omega)]at hj;simpa using hj
theorem ql(w:World)(l:List Fd)(hl:l.length<=maxLen):ea (w.alloc (.cells (eJ l).toArray 81)) w.heap.size (.slice (some ⟨w.heap.size,0,none⟩) l.length l.length) l:=by
 have:=jfv (e:=81) (size:=4) w (eJ l).toArray l.length (base:=w.heap.size) (jek _) hl (by simp[gh]);exact this
theorem Tn:(Tryz.prog.info? 81).map (fun i=>(i.zero,i.size,i.bytes))=some (some (.agg #[.int .u32 0,.string ⟨#[]⟩,.int .u8 0,.bool false]),4,32):=by kernel_rfl
theorem tj{w:World}{ops:Array Oper}{rest:List Oper}{o:Oper}{a:Act}{Q:Exit->Act->World->Prop}(dY:o.guard=none)(s x:Operand)
  (ho:o.op=.call { callee:=.builtin .append,args:=#[s,x],argTypes:=#[23,23] })
  (base:Nat) (v vx:Value) (l0 l:List Fd) (hs:a.eval s=v) (aA:ea w base v l0) (hx:a.eval x=vx) (eN:Sf w vx l)
  (hbytes:l0.length+l.length<=100000) (aI:base<=w.heap.size)
  (h:∀ v' w',ea w' base v' (l0++l)->Below base w w'->wpList Tryz.prog ops Q rest (a.put o.dst v') w') :
  wpList Tryz.prog ops Q (o::rest) a w:=by
 obtain⟨i0,hi,ch,hz1',bv⟩:=jeD Tn;unfold ea at *;obtain⟨ad,cap,rfl,h1,h2,h3,h4⟩:=eN;cases ad with
 | none =>
  have hc:=h3 rfl;subst hc;have hl:l=[]:=jeI (by omega);subst hl;refine wpList_plain dY fun K hK=>?_
  have hr:=jfI (P:=Tryz.prog) (w:=w) base 23 o.type 81 i0 4 Tryz.underlying23 hi v l0.length (eJ l0) aA;unfold Oper.wp execOp;simp only[ho,resolve,invoke,builtin,Sem.run_bind,Sem.run_pure,Result.andThen_ok,jfs,jeT,je8,hs,hx,hr,jeL];refine hK _ _ (h v w ?_ (jej _ _));rw[jeG];exact aA
 | some ad =>
  refine jeY (w:=w) dY s x 23 ho base 81 i0 (.agg #[.int .u32 0,.string ⟨#[]⟩,.int .u8 0,.bool false]) 4 32 Tryz.underlying23 hi ch hz1' bv rfl (by decide) v l0.length (eJ l0) hs aA ad l.length cap (eJ l) hx (by rw[gh]) ?_ (pJ _) (by unfold maxLen;omega) (by omega) aI ?_
  ·intro j u hu
   have hj:j<l.length*4:=by
    have:=(List.getElem?_eq_some_iff.1 hu).1;rwa[gh]at this
   obtain⟨b,off,h5,_,h6⟩:=h4 (by omega);cases h5
   rw[lR];exact h6 j u hu
  ·intro v' w' o1 g1 _ _
   refine h v' w' ?_ ((jej base w).grown g1 aI (fun k hk=>(aA.lt k hk).1));rw[rD,jem];exact o1
theorem BR(w:World)(f:Fd):ea (w.alloc (.cells #[.int .u32 (f.1:Int),.string f.2.1,.int .u8 (f.2.2.1:Int),.bool f.2.2.2] 81)) w.heap.size (.slice (some ⟨w.heap.size,0,none⟩) 1 1) [f]:=ql w [f] (by unfold maxLen;simp)
theorem BT(s t:ByteArray):(s.toList==t.toList)=decide (s=t):=by
 rw[jfN];simp only[beq_iff_eq,je7];constructor
 ·intro h
  rw[ByteArray.toList_eq,ByteArray.toList_eq]at h;exact Ht h
 ·intro h;rw[h]
def bQ(S:World->Prop):Type:={x:World // S x}
def bQ.w{S:World->Prop}(s:bQ S):World:=s.val
theorem bQ.ok{S:World->Prop}(s:bQ S):S s.w:=s.property
def bQ.mk{S:World->Prop}(x:World)(h:S x):bQ S:=⟨x,h⟩
theorem cz{P:Program}{id:Nat}{Q:Exit->Act->World->Prop}{a:Act}{w:World}{l:List Oper}{S:World->Prop}(hm:P.follows .mixedOrders=true)(hB:Region.lexB .any l.toArray=true)(hS:S w.drew)
  (h:wpQuiet P l.toArray (fun w'=>∃ s:bQ S,w'=s.w) (fun a'=>∀ w',(∃ s:bQ S,w'=s.w)->Q .normal a' w') l a):(Code.region id l.toArray true).wp P Q a w :=
 wp_region_quiet (C:=fun w'=>∃ s:bQ S,w'=s.w) hm hB ⟨bQ.mk _ hS,rfl⟩ (by simpa using h)
theorem jg(w:World)(x y z u:Value)(t:Nat):(w.alloc (.cells #[x,y,z,u] t)).cell? ⟨w.heap.size,0,none⟩=some x/\(w.alloc (.cells #[x,y,z,u] t)).cell? ⟨w.heap.size,1,none⟩=some y/\(w.alloc (.cells #[x,y,z,u] t)).cell? ⟨w.heap.size,2,none⟩=some z/\(w.alloc (.cells #[x,y,z,u] t)).cell? ⟨w.heap.size,3,none⟩=some u:=by
 have h:=jeK w (.cells #[x,y,z,u] t);exact⟨by rw[ay h];rfl,by rw[ay h];rfl,by rw[ay h];rfl,by rw[ay h];rfl⟩
theorem bx(w:World)(x y:Value)(t:Nat):(w.alloc (.cells #[x,y] t)).cell? ⟨w.heap.size,0,none⟩=some x/\(w.alloc (.cells #[x,y] t)).cell? ⟨w.heap.size,1,none⟩=some y:=by
 have h:=jeK w (.cells #[x,y] t);exact⟨by rw[ay h];rfl,by rw[ay h];rfl⟩
theorem xt{W:World}{v:Value}{l:List Fd}(h:Sf W v l)(n:Nat):Sf (W.drewN n) v l:=h.kept (ar (jej _ _) n)
theorem tk{w:World}{v:Value}{l:List Fd}(hs:Sf w v l)(si id:Nat):Calls Tryz.prog 193 #[.agg #[.int .u32 (si:Int),v],.int .u32 (id:Int)] w fun e w'=>e=.returned (.tuple #[.int .i64 (((iV l id).getD 0:Nat):Int),.bool (iV l id).isSome])/\Below w.heap.size w w':=by
 obtain⟨a,cap,rfl,aW,bC⟩:=hs.form;have ce:=ae (ak w (.cells #[.int .u32 (si:Int),.slice a l.length cap] 25));have HS:=ae (hs.kept (ak w (.cells #[.int .u32 (si:Int),.slice a l.length cap] 25)));have HP:jgf (iV l id=kt id 0 (l.drop 0)):=ae rfl;generalize iV l id=P at *;clear hs;generalize hW:w.alloc (.cells #[.int .u32 (si:Int),.slice a l.length cap] 25)=W at *;have hW':=hW;obtain⟨c0,c1⟩:=bx w (.int .u32 (si:Int)) (.slice a l.length cap) 25;rw[hW]at c0 c1;go_enter Tryz.func193,Tryz.ntmps193
 go_wp2_with fail;try rw[hW]
 clear hW hW' c0 c1;go_loopw [11] (fun i wr=>∃ k:Nat,k<=l.length/\i=.int .i64 (k:Int)/\P=kt id k (l.drop k)/\Below W.heap.size W wr) (fun i _=>l.length-(intOf i).toNat)
 case atStart=>exact⟨0,by omega,rfl,HP.o,jej _ _⟩
 case round =>
  obtain⟨k,hk,rfl,kT,az⟩:=hrel;have HF:=ae kT;have HB:=ae az;have bH:=az.size;clear kT az HP;by_cases aB:k<l.length
  ·obtain⟨b,off,rfl,hb,x0,x1,x2,x3⟩:=(HS.o.kept HB.o).at aB
   have HT:=ae (HF.o.trans (Dt aB));have hlt':(k:Int)<(l.length:Int):=(by omega);generalize l[k]=f at *;obtain⟨f0,f1,f2,f3⟩:=f;simp only at *;have aN:=ae (HB.o.trans ((ak wr (.cells #[.int .u32 (f0:Int),.string f1,.int .u8 (f2:Int),.bool f3] 81)).mono bH));by_cases hq:f0=id
   ·rw[jei hq]at HT
    have hq':((f0:Int)==(id:Int))=true:=by rw[hq];simp
    subst hq;go_wp2_with fail;go_ret2
    rw[HT.o];exact⟨rfl,ai ce.o aN.o⟩
   ·rw[jeh hq]at HT
    have hq':((f0:Int)==(id:Int))=false:=jev.2 (by omega);clear hq;go_wp2_with fail;go_roundw
    case rel=>exact⟨k+1,by omega,by go_num,HT.o,aN.o⟩
    case measure=>simp[intOf];omega
  ·obtain rfl:k=l.length:=by omega
   have gi:¬ ((l.length:Nat):Int)<(l.length:Int):=(by omega);have HT:=ae (HF.o.trans (GR l id));clear HF;go_wp2_with fail;go_ret2
   rw[HT.o];exact⟨rfl,ai ce.o HB.o⟩
theorem xu{w:World}{v rv:Value}{l:List Fd}{r:List Cl}(hs:Sf w v l)(hr:Sc w rv r)(si:Nat):Calls Tryz.prog 43 #[.agg #[.int .u32 (si:Int),v],rv] w fun e w'=>e=.returned (.int .i64 (iO l r:Int))/\Below w.heap.size w w':=by
 obtain⟨a,cap,rfl,aW,bC⟩:=hs.form;obtain⟨ra,rcap,rfl,VC,VD⟩:=hr.form;have hrcm':rcap<=9223372036854775807:=by unfold maxLen at VD;omega
 have dL:=ak w (.cells #[.int .u32 (si:Int),.slice a l.length cap] 25);have ce:=ae dL;have HS:=ae (hs.kept dL);have HR:=ae (hr.kept dL);obtain⟨c0,c1⟩:=bx w (.int .u32 (si:Int)) (.slice a l.length cap) 25;have hz:w.heap.size<(w.alloc (.cells #[.int .u32 (si:Int),.slice a l.length cap] 25)).heap.size:=by rw[jel];omega
 clear hs hr dL VD;generalize hW:w.alloc (.cells #[.int .u32 (si:Int),.slice a l.length cap] 25)=W at *;by_cases fJ:r.length≠l.length
 ·have HM:jgf (iO l r=1):=ae (jei fJ)
  have hne':((r.length:Int) != (l.length:Int))=true:=by simp only[bne_iff_ne];omega
  clear fJ;go_enter Tryz.func43,Tryz.ntmps43
  go_wp2_with fail;go_ret
  rw[HM.o];refine⟨rfl,?_⟩;first | exact ce.o | (rw[hW];exact ce.o)
 ·have nD:r.length=l.length:=by omega
  have HM:jgf (iO l r=qL (l.drop 0) (r.drop 0)):=ae (jeh fJ);have Vt:=ae nD;rw[nD]at VC HR ⊢;generalize iO l r=R at *;clear fJ nD;go_enter Tryz.func43,Tryz.ntmps43
  go_wp2_with fail;try rw[hW]
  clear hW;go_loopw [5] (fun i wr=>∃ k:Nat,k<=l.length/\i=.int .i64 (k:Int)/\R=qL (l.drop k) (r.drop k)/\Below W.heap.size W wr) (fun i _=>l.length-(intOf i).toNat)
  case atStart=>exact⟨0,by omega,rfl,HM.o,jej _ _⟩
  case round =>
   obtain⟨k,hk,rfl,kT,az⟩:=hrel;have HF:=ae kT;have HB:=ae az;have bH:=az.size;have d1:=(az.cell (p:=⟨w.heap.size,1,none⟩) hz).trans c1;clear kT az HM;by_cases aB:k<l.length
   ·obtain⟨b,off,rfl,hb,x0,x1,x2,x3⟩:=(HS.o.kept HB.o).at aB
    have Qz:k<r.length:=by have:=Vt.o;omega
    obtain⟨rb,roff,rfl,hrb,y0,y1,y2⟩:=(HR.o.kept HB.o).at Qz;have HT:=ae (HF.o.trans (zB aB Qz));have hlt':(k:Int)<(l.length:Int):=(by omega);have jco:(0:Int)<=(k:Int):=(by omega);have HQ:jgf (qK l[k] r[k]=if r[k].1=0 then (if l[k].2.2.2=true then 82 else 0) else if r[k].1≠l[k].2.2.1 then 10 else if 64<r[k].2.2.length then 5 else 0):=ae rfl;generalize qK l[k] r[k]=Q at *;rw[dM]at y2;have hS:=bi r[k].2.2;generalize am r[k].2.2=S at *;generalize r[k].2.2.length=cl at *;generalize r[k].2.1=cn at *;generalize r[k].1=ck at *;generalize l[k].2.2.1=f2 at *;generalize l[k].2.2.2=f3 at *;have qJ:=ak wr (.cells #[.int .u8 (ck:Int),.int .i64 cn,.string S] 52);have aN:=ae (HB.o.trans (qJ.mono bH));have e1:=(qJ.cell (p:=⟨w.heap.size,1,none⟩) (show w.heap.size<_ by omega)).trans d1;have e2:=(qJ.cell (p:=⟨b,off+k*4+2,none⟩) hb).trans x2;have e3:=(qJ.cell (p:=⟨b,off+k*4+3,none⟩) hb).trans x3;have Qu:w.heap.size<wr.heap.size:=(by omega);clear qJ;by_cases q0:ck=0
    ·have q0':((ck:Int)==0)=true:=by rw[q0];rfl
     rw[jei q0]at HQ;clear q0;cases f3
     ·rw[jeh (by simp)]at HQ
      rw[jei HQ.o]at HT;go_wp2_with fail;go_roundw
      case rel=>exact⟨k+1,by omega,by go_num,HT.o,aN.o⟩
      case measure=>simp[intOf];omega
     ·rw[jei rfl]at HQ
      rw[HQ.o,jeh (by omega)]at HT;go_wp2_with fail;go_ret
      rw[HT.o];exact⟨rfl,ai ce.o aN.o⟩
    ·have q0':((ck:Int)==0)=false:=jev.2 (by omega)
     rw[jeh q0]at HQ;clear q0;by_cases q1:ck=f2
     ·rw[jeh (by simpa using q1)]at HQ
      have q1':((ck:Int) != (f2:Int))=false:=by simp[q1]
      clear q1;by_cases q2:64<cl
      ·have q2':(S.size:Int) > 64:=by omega
       rw[jei q2]at HQ;rw[HQ.o,jeh (by omega)]at HT;clear q2;go_wp2_with fail;go_quiet (fail)
       go_wp2_with fail;go_ret
       rw[HT.o];exact⟨rfl,ar (ai ce.o aN.o) _⟩
      ·have q2':¬ (S.size:Int) > 64:=by omega
       rw[jeh q2]at HQ;rw[jei HQ.o]at HT;clear q2;go_wp2_with fail;go_quiet (fail)
       go_wp2_with fail;go_roundw
       case rel=>exact⟨k+1,by omega,by go_num,HT.o,ar aN.o _⟩
       case measure=>simp[intOf];omega
     ·rw[jei q1]at HQ
      have q1':((ck:Int) != (f2:Int))=true:=by simp only[bne_iff_ne];omega
      rw[HQ.o,jeh (by omega)]at HT;clear q1;go_wp2_with fail;go_quiet (fail)
      go_wp2_with fail;go_ret
      rw[HT.o];exact⟨rfl,ar (ai ce.o aN.o) _⟩
   ·obtain rfl:k=l.length:=by omega
    have gi:¬ ((l.length:Nat):Int)<(l.length:Int):=(by omega);have HT:=ae (HF.o.trans (Du l _));clear HF;go_wp2_with fail;go_ret
    rw[HT.o];exact⟨rfl,ai ce.o HB.o⟩
def NM(w:World)(l:List Fd)(e:Ending)(w':World):Prop:=(∃ g:Bool,e=.returned (.bool g)/\(g=false->l.length<=100/\szs l<5000))/\Below w.heap.size w w'
theorem NN{w:World}{v:Value}{l:List Fd}(hs:Sf w v l)(id:Nat):Calls Tryz.prog 10 #[.agg #[.int .u32 (id:Int),v]] w (NM w l):=by
 obtain⟨a,cap,rfl,aW,bC⟩:=hs.form;have ce:=ae (ak w (.cells #[.int .u32 (id:Int),.slice a l.length cap] 25));have HS:=ae (hs.kept (ak w (.cells #[.int .u32 (id:Int),.slice a l.length cap] 25)));obtain⟨c0,c1⟩:=bx w (.int .u32 (id:Int)) (.slice a l.length cap) 25;clear hs;generalize hW:w.alloc (.cells #[.int .u32 (id:Int),.slice a l.length cap] 25)=W at *;go_enter Tryz.func10,Tryz.ntmps10
 go_wp2_with fail;try rw[hW]
 clear hW;go_loopw [3,4] (fun n i wr=>∃ k s:Nat,wr=W/\k<=l.length/\k<=100/\i=.int .i64 (k:Int)/\n=.int .i64 (s:Int)/\s<10000/\(s<5000->s=szs (l.take k))) (fun _ i _=>l.length-(intOf i).toNat)
 case atStart=>exact⟨0,0,rfl,by omega,by omega,rfl,rfl,by omega,fun _=>by simp[szs]⟩
 case round =>
  obtain⟨k,s,rfl,hk,hk100,rfl,rfl,eg,dR⟩:=hrel;have gj:=ae dR;clear dR;by_cases aB:k<l.length
  ·have hlt':(k:Int)<(l.length:Int):=by omega
   by_cases qA:(k:Int)<100
   ·by_cases nG:(s:Int)<5000
    ·obtain⟨b,off,rfl,hb,x0,x1,x2,x3⟩:=HS.o.at aB
     have qG:=ae (yF aB);have HSE:=ae (gj.o (by omega));generalize l[k].2.1=nm at *;have YX:∃ q:Nat,min (nm.size:Int) 5000=(q:Int)/\q<=5000/\(q<5000->q=nm.size):=⟨min nm.size 5000,by omega,by omega,by omega⟩;obtain h | h | h:(nm.size:Int)<5000∨(nm.size:Int)=5000∨(5000:Int)<(nm.size:Int):=by omega
     ·have h2:¬ (5000:Int)<(nm.size:Int):=by omega
      have h3:((nm.size:Int)==5000)=false:=jev.2 (by omega);have h4:(nm.size:Int)<=5000:=(by omega);have h5:¬ (5000:Int)<=(nm.size:Int):=(by omega);clear YX;go_wp2_with fail;go_roundw
      case rel=>exact⟨k+1,s+nm.size,trivial,by omega,by omega,by go_num,by go_num,by omega,fun _=>by rw[qG.o,HSE.o]⟩
      case measure=>simp[intOf];omega
     ·clear YX
      go_wp2_with fail;go_roundw
      case rel=>exact⟨k+1,s+5000,trivial,by omega,by omega,by go_num,by go_num,by omega,fun h=>by omega⟩
      case measure=>simp[intOf];omega
     ·have h2:¬ (nm.size:Int)<5000:=by omega
      have h3:((nm.size:Int)==5000)=false:=jev.2 (by omega);have h4:(5000:Int)<=(nm.size:Int):=(by omega);have h5:¬ (nm.size:Int)<=5000:=(by omega);clear YX;go_wp2_with fail;go_roundw
      case rel=>exact⟨k+1,s+5000,trivial,by omega,by omega,by go_num,by go_num,by omega,fun h=>by omega⟩
      case measure=>simp[intOf];omega
    ·by_cases hl:(l.length:Int) > 100
     ·go_wp2_with fail
      go_ret
      exact⟨⟨true,rfl,fun h=>by cases h⟩,ce.o⟩
     ·have yl:(s:Int)>=5000:=by omega
      go_wp2_with fail;go_ret
      exact⟨⟨true,rfl,fun h=>by cases h⟩,ce.o⟩
   ·have hl:(l.length:Int) > 100:=by omega
    go_wp2_with fail;go_ret
    exact⟨⟨true,rfl,fun h=>by cases h⟩,ce.o⟩
  ·obtain rfl:k=l.length:=by omega
   have gi:¬ ((l.length:Nat):Int)<(l.length:Int):=(by omega);have hl:¬ (l.length:Int) > 100:=(by omega);by_cases yl:(s:Int)>=5000
   ·go_wp2_with fail
    go_ret
    exact⟨⟨true,rfl,fun h=>by cases h⟩,ce.o⟩
   ·have h2:=gj.o
    rw[jes]at h2;have H2:=ae (h2 (by omega));clear h2;go_wp2_with fail;go_ret
    exact⟨⟨false,rfl,fun h=>⟨by omega,by rw[← H2.o];omega⟩⟩,ce.o⟩
theorem uw(c:Nat)(w:World):Calls Tryz.prog 224 #[.int .i32 (c:Int)] w fun e w'=>e=.returned (.bool (eG c))/\w'=w:=by
 by_cases h1:48<=(c:Int)
 ·by_cases h2:(c:Int)<=57
  ·have HN:jgf (eG c=true):=ae (jeB (by omega))
   go_enter Tryz.func224,Tryz.ntmps224
   go_wp2;go_ret
   rw[HN.o];exact⟨rfl,rfl⟩
  ·have HN:jgf (eG c=false):=ae (jeu (by omega))
   go_enter Tryz.func224,Tryz.ntmps224
   go_wp2;go_ret
   rw[HN.o];exact⟨rfl,rfl⟩
 ·have HN:jgf (eG c=false):=ae (jeu (by omega))
  go_enter Tryz.func224,Tryz.ntmps224
  go_wp2;go_ret
  rw[HN.o];exact⟨rfl,rfl⟩
theorem Ez(c:Nat)(w:World):Calls Tryz.prog 223 #[.int .i32 (c:Int)] w fun e w'=>e=.returned (.bool (gM c || eG c))/\w'=w:=by
 have HD:=ae (uw c);have HL:jgf (gM c=(decide (97<=c/\c<=122) || decide (c=95) || decide (127<c))):=ae rfl;by_cases h1:97<=(c:Int)/\(c:Int)<=122
 ·obtain⟨h1,h2⟩:=h1
  have HN:jgf ((gM c || eG c)=true):=ae (by rw[HL.o,jeB (show 97<=c/\c<=122 by omega)];rfl);rw[HN.o];go_enter Tryz.func223,Tryz.ntmps223
  go_wp2;go_ret
  exact⟨rfl,rfl⟩
 ·have hh:¬ (97<=c/\c<=122):=by omega
  have HB:jgf ((gM c || eG c)=(eG c || decide (c=95) || decide (127<c))):=ae (by
   rw[HL.o,jeu hh];cases eG c<;>cases decide (c=95)<;>cases decide (127<c)<;>rfl)
  rw[HB.o];clear hh;generalize eG c=dg at *;have VE:97<=(c:Int)/\¬ (c:Int)<=122∨¬ 97<=(c:Int):=by omega
  clear h1;rcases VE with ⟨h1,h2⟩ | h1
  all_goals
   go_enter Tryz.func223,Tryz.ntmps223
   go_wp2_with fail;refine(HD.o _).mono ?_;rintro e w1 ⟨rfl,rfl⟩;cases dg
   ·by_cases h3:c=95
    ·have h3':((c:Int)==95)=true:=by simp;omega
     have HV:jgf ((false || decide (c=95) || decide (127<c))=true):=ae (by rw[jeB h3];rfl);clear h3;go_wp2_with fail;go_ret
     rw[HV.o];exact⟨rfl,rfl⟩
    ·have h3':((c:Int)==95)=false:=by simp;omega
     have HV:jgf ((false || decide (c=95) || decide (127<c))=decide (127<(c:Int))):=ae (by
      rw[jeu h3];by_cases h4:127<c
      ·rw[jeB h4,jeB (by omega)];rfl
      ·rw[jeu h4,jeu (by omega)];rfl)
     clear h3;go_wp2_with fail;go_ret
     rw[HV.o];exact⟨rfl,rfl⟩
   ·go_wp2_with fail
    go_ret
    exact⟨rfl,rfl⟩
theorem To{u:List (Nat×Nat)}(h:∀ x∈u,1<=x.2){k:Nat}(hk:k<=u.length):eQ u k=0↔k=0:=by
 cases k with
 | zero=>simp
 | succ k =>
  cases u with
  | nil=>simp at hk
  | cons x t =>
   have:=h x (by simp);unfold eQ;simp
   omega
theorem XJ{l:List UInt8}{p k:Nat}(h:At l p k):p=0↔k=0:=by
 rw[h.2.2.1];exact To (fun x hx=>(Xd _ l (jek _) x hx).2) h.2.2.2
theorem NO{l:List UInt8}{p k:Nat}(h:At l p k)(hp:p<l.length):dT k ((V l).drop k)=(kZ k (aR (l.drop p)).1 && dT (k+1) ((V l).drop (k+1))):=by
 have h1:=h.lt hp;rw[h1,pE,zy h1]
theorem Jk(k c:Nat):kZ k c=((gM c || eG c) && !(decide (k=0) && eG c)):=by
 unfold kZ;by_cases hk:k=0
 ·subst hk
  have h1:eG c=true->gM c=false:=by
   unfold eG gM;simp
   omega
  cases hd:eG c
  ·simp
  ·rw[h1 hd];simp
 ·have:0<k:=by omega
  simp[hk,this]
theorem yO(s:ByteArray)(w:World):Calls Tryz.prog 197 #[.string s] w fun e w'=>e=.returned (.bool (named s))/\Below w.heap.size w w':=by
 have hL:=cL s;by_cases h1:s.size=0
 ·have HN:jgf (named s=false):=ae (by unfold named;rw[jeu (by omega)];rfl)
  rw[HN.o]
  have hs:s=⟨#[]⟩:=by
   apply Ht
   exact jeI (hL.trans h1)
  subst hs;clear hL h1;go_enter Tryz.func197,Tryz.ntmps197
  go_wp2_with fail;go_ret
  exact⟨rfl,jej _ _⟩
 ·have fJ:(s.toList==([]:List UInt8))=false:=by
   cases h:(s.toList==([]:List UInt8))with
   | false=>rfl
   | true =>
    exfalso
    rw[beq_iff_eq,ByteArray.toList_eq]at h;have:=jep List.length h;have h3:s.size=0:=this;omega
  have zq:s.toList.isEmpty=false:=by
   cases h:s.toList with
   | nil=>rw[h]at fJ;simp at fJ
   | cons=>rfl
  by_cases h2:(s.size:Int) > 16
  ·have HN:jgf (named s=false):=ae (by unfold named;rw[jeu (by omega)];rfl)
   rw[HN.o];clear h1;go_enter Tryz.func197,Tryz.ntmps197
   go_wp2_with fail;go_ret
   exact⟨rfl,jej _ _⟩
  ·have HN:jgf (named s=(dS (lb s) && dT 0 (V (lb s)))):=ae (by unfold named;rw[jeB (by omega)];rfl)
   rw[HN.o];have HC:=ae (tc s (by omega));clear HN h1;generalize dS (lb s)=cl at *;go_enter Tryz.func197,Tryz.ntmps197
   go_wp2_with fail;refine(HC.o _).mono ?_;rintro e w1 ⟨rfl,aH⟩;have aP:=ae aH;clear aH;cases cl
   ·go_wp2_with fail
    go_ret
    exact⟨rfl,aP.o⟩
   ·go_wp2_with fail
    go_loopw [3,4] (fun i r w'=>∃ p k:Nat,w'=w1.iter s p/\At (lb s) p k/\dT 0 (V (lb s))=dT k ((V (lb s)).drop k)) (fun _ _ w'=>s.size-w'.iterPos w1.heap.size)
    case atStart=>exact⟨0,0,rfl,At.zero _,rfl⟩
    case round =>
     obtain⟨p,k,rfl,kg,dY⟩:=hrel;by_cases hp:p<s.size
     ·have yw:∀ ty,(Instr.next (.pointer (some ⟨w1.heap.size,0,none⟩)) true ty).run Tryz.prog (w1.iter s p)=_:=fun ty=>run_next_any w1 s p ty hp
      rw[me]at yw;have hw:=dF _ (jp (l:=lb s) (p:=p) (by omega));have HN:=ae (kg.next (by omega));have HG:=ae (dY.trans (NO kg (by omega)));have hz:=XJ kg;clear kg dY;generalize (aR ((lb s).drop p))=u at *;obtain⟨c,wd⟩:=u;simp only at *;have HS:=ae (Jk k c);have HO:=ae (Ez c);have HD:=ae (uw c);have HW:=ae hw;clear hw;cases hlet:(gM c || eG c)with
      | false =>
       rw[hlet]at HO HS;clear hz;go_wp2_with fail;refine(HO.o _).mono ?_;rintro e w2 ⟨rfl,rfl⟩;go_wp2_with fail;go_ret
       refine⟨?_,aP.o.trans ((ez _ _ _).mono aP.o.size)⟩;rw[Bool.true_and,HG.o,HS.o];rfl
      | true =>
       rw[hlet]at HO HS;by_cases hp0:p=0
       ·obtain rfl:k=0:=hz.1 hp0
        subst hp0;clear hz;cases hdg:eG c with
        | false =>
         rw[hdg]at HD HS;go_wp2_with fail;refine(HO.o _).mono ?_;rintro e w2 ⟨rfl,rfl⟩;go_wp2_with fail;refine(HD.o _).mono ?_;rintro e w2 ⟨rfl,rfl⟩;go_wp2_with fail;go_roundw
         case rel=>exact⟨_,1,rfl,by simpa using HN.o,by rw[HG.o,HS.o];rfl⟩
         case measure=>have:=HW.o;simp at this ⊢;omega
        | true =>
         rw[hdg]at HD HS;go_wp2_with fail;refine(HO.o _).mono ?_;rintro e w2 ⟨rfl,rfl⟩;go_wp2_with fail;refine(HD.o _).mono ?_;rintro e w2 ⟨rfl,rfl⟩;go_wp2_with fail;go_ret
         refine⟨?_,aP.o.trans ((ez _ _ _).mono aP.o.size)⟩;rw[Bool.true_and,HG.o,HS.o];rfl
       ·have qB:¬ k=0:=fun h=>hp0 (hz.2 h)
        have hpb:((p:Int)==0)=false:=by simp[hp0]
        rw[jeu qB]at HS;clear hz qB hp0;go_wp2_with fail;refine(HO.o _).mono ?_;rintro e w2 ⟨rfl,rfl⟩;go_wp2_with fail;go_roundw
        case rel=>exact⟨_,k+1,rfl,HN.o,by rw[HG.o,HS.o];rfl⟩
        case measure=>have:=HW.o;simp at this ⊢;omega
     ·have yw:∀ ty,(Instr.next (.pointer (some ⟨w1.heap.size,0,none⟩)) true ty).run Tryz.prog (w1.iter s p)=_:=fun ty=>run_next_end w1 s p ty hp
      have HE:jgf (k=(V (lb s)).length/\p=(lb s).length):=kg.end (by omega);clear kg;have HG:=ae dY;clear dY;go_wp2_with fail;go_ret
      refine⟨?_,aP.o.trans ((ez _ _ _).mono aP.o.size)⟩;rw[Bool.true_and,HG.o,HE.o.1,jfg];rfl
theorem EA{v:Value}{k n:Int}{s:ByteArray}(h:Val v k n s)(w:World):Calls Tryz.prog 76 #[v] w fun e w'=>e=.returned (.agg #[.int .u8 k,.int .i64 n,.string s])/\Below w.heap.size w w':=by
 have t1:=Bp;have t2:=GT;have t3:=Bq;have t4:=GU;have t5:=GV;have t6:=Br;have t7:=GW;have t8:=GX;have t9:=GY;rcases h with ⟨rfl,rfl,rfl,rfl⟩ | ⟨rfl,rfl,rfl⟩ | ⟨b,rfl,rfl,rfl,rfl⟩ | ⟨rfl,rfl,rfl⟩
 ·go_enter Tryz.func76,Tryz.ntmps76
  go_wp2;exact bodyPost_ret (v:=.agg #[.int .u8 0,.int .i64 0,.string ⟨#[]⟩]) (by simp[results,Tryz.results76,go_sem]) rfl ⟨rfl,(jej _ _).alloc (jek _) _⟩
 ·go_enter Tryz.func76,Tryz.ntmps76
  go_wp2;exact bodyPost_ret (v:=.agg #[.int .u8 1,.int .i64 n,.string ⟨#[]⟩]) (by simp[results,Tryz.results76,go_sem]) rfl ⟨rfl,(jej _ _).alloc (jek _) _⟩
 ·cases b
  ·go_enter Tryz.func76,Tryz.ntmps76
   go_wp2;exact bodyPost_ret (v:=.agg #[.int .u8 2,.int .i64 0,.string ⟨#[]⟩]) (by simp[results,Tryz.results76,go_sem]) rfl ⟨rfl,(jej _ _).alloc (jek _) _⟩
  ·go_enter Tryz.func76,Tryz.ntmps76
   go_wp2;exact bodyPost_ret (v:=.agg #[.int .u8 2,.int .i64 1,.string ⟨#[]⟩]) (by simp[results,Tryz.results76,go_sem]) rfl ⟨rfl,(jej _ _).alloc (jek _) _⟩
 ·go_enter Tryz.func76,Tryz.ntmps76
  go_wp2;exact bodyPost_ret (v:=.agg #[.int .u8 3,.int .i64 0,.string s]) (by simp[results,Tryz.results76,go_sem]) rfl ⟨rfl,(jej _ _).alloc (jek _) _⟩
theorem NP{c:Nat×Int×List Nat}(h:aT c)(w:World):Calls Tryz.prog 76 #[da c] w fun e w'=>e=.returned (.agg #[.int .u8 (c.1:Int),.int .i64 c.2.1,.string (am c.2.2)])/\Below w.heap.size w w':=EA h.val w
theorem Aj{w:World}{v:Value}{l:List (Nat×Int×List Nat)}(hs:Sv w v (aJ l))(hf:∀ c∈l,aT c)(hl:l.length<=600) :
  Calls Tryz.prog 37 #[v] w fun e w'=>(∃ v',e=.returned v'/\ex w' w.heap.size v' l)/\Below w.heap.size w w':=by
 have HS:=ae hs;have HK:=ae hf;obtain⟨a,cap,rfl,aW,bC⟩:=hs.form1;rw[aG]at *;have hcm':cap<=9223372036854775807:=by unfold maxLen at bC;omega
 clear hs bC hf;go_enter Tryz.func37,Tryz.ntmps37
 go_wp2_with fail;go_loopw [3,4] (fun o i wr=>∃ j:Nat,j<=l.length/\i=.int .i64 (j:Int)/\ex wr w.heap.size o (l.take j)/\Below w.heap.size w wr) (fun _ i _=>l.length-(intOf i).toNat)
 case atStart=>exact⟨0,by omega,rfl,ex.nil _ _,jej _ _⟩
 case round =>
  obtain⟨j,hj,rfl,aA,az⟩:=hrel;have HO:=ae aA;have HB:=ae az;have bH:=az.size;clear aA az;by_cases aB:j<l.length
  ·obtain⟨g,off,rfl,hg,bn⟩:=(HS.o.kept HB.o).at1 (cQ aB)
   have hlt':(j:Int)<(l.length:Int):=(by omega);have lz:jgf (l.take (j+1)=l.take j++[l[j]]):=ae (jeA aB);have hlen':(l.take j).length<=100000:=by rw[jeq];omega
   have HVA:=ae (NP (HK.o l[j] (jeo aB)));generalize l[j]=fc at *;generalize l.take j=LL at *;generalize da fc=vc at *;go_wp2_with fail;refine(HVA.o _).mono ?_;rintro e w1 ⟨rfl,aH⟩;have eO:=ae (HO.o.kept aH);have aP:=ae (HB.o.trans (aH.mono bH));have cK:=aH.size;have kf:=ae (dB w1 (.int .u8 (fc.1:Int)) (.int .i64 fc.2.1) (.string (am fc.2.2)) 52);clear aH bn;go_wp2_with (first | (at_builtin;refine jK rfl _ _ rfl w.heap.size _ _ fc LL rfl (eO.o.kept (ak _ _)) rfl kf.o.1 kf.o.2.1 kf.o.2.2 hlen' ?c2 ?_))
   case c2=>first | omega | (rw[jel];omega)
   intro v' w5 o5 b5;have df:=ae o5;have aQ:=ae ((aP.o.alloc (jet bH cK) _).trans b5);clear o5 b5;go_wp2_with fail;go_roundw
   case rel=>exact⟨j+1,by omega,by go_num,by rw[lz.o];exact df.o,aQ.o⟩
   case measure=>simp[intOf];omega
  ·obtain rfl:j=l.length:=by omega
   rw[jes]at HO;have gi:¬ ((l.length:Nat):Int)<(l.length:Int):=(by omega);go_wp2_with fail;go_ret
   exact⟨⟨_,rfl,HO.o⟩,HB.o⟩
theorem EB{w:World}{v1 v2:Value}{l m:List (Nat×Int×List Nat)}(h1:Sc w v1 l)(h2:Sc w v2 m)(aH:∀ c∈l,Bs c.2.2)(aE:∀ c∈m,Bs c.2.2) :
  Calls Tryz.prog 36 #[v1,v2] w fun e w'=>e=.returned (.bool (decide (l=m)))/\Below w.heap.size w w':=by
 have ja:=ae h1;have gj:=ae h2;have aP:=ae aH;have aN:=ae aE;obtain⟨a,cap,rfl,aW,bC⟩:=h1.form;obtain⟨a2,cap2,rfl,Vs,zh⟩:=h2.form;have hcm':cap<=9223372036854775807:=by unfold maxLen at bC;omega
 have hcm2':cap2<=9223372036854775807:=by unfold maxLen at zh;omega
 clear h1 h2 aH aE bC zh;by_cases bR:l.length=m.length
 ·have fJ:(((l.length:Nat):Int) != (m.length:Int))=false:=by simp[bR]
  have CU:=ae bR;clear bR;go_enter Tryz.func36,Tryz.ntmps36
  go_wp2_with fail;go_loopw [5] (fun i wr=>∃ j:Nat,j<=l.length/\i=.int .i64 (j:Int)/\l.take j=m.take j/\Below w.heap.size w wr) (fun i _=>l.length-(intOf i).toNat)
  case atStart=>exact⟨0,by omega,rfl,rfl,jej _ _⟩
  case round =>
   obtain⟨j,hj,rfl,jaj,az⟩:=hrel;have WH:=ae jaj;have HB:=ae az;clear jaj az;by_cases aB:j<l.length
   ·have jcp:j<m.length:=by have:=CU.o;omega
    obtain⟨g,off,rfl,hg,c0,c1,c2⟩:=(ja.o.kept HB.o).at aB;obtain⟨g2,off2,rfl,gY,d0,d1,d2⟩:=(gj.o.kept HB.o).at jcp;have hlt':(j:Int)<(l.length:Int):=(by omega);have hltm':(j:Int)<(m.length:Int):=(by omega);have lz:=ae (fun he=>Bu aB jcp WH.o he);have Rg:jgf (l[j]≠m[j]->decide (l=m)=false):=ae (fun h=>jeu (fun e=>h (by subst e;rfl)));have HBC:=ae (aP.o l[j] (jeo aB));have GK:=ae (aN.o m[j] (jeo jcp));rw[dM]at c2 d2;generalize l[j]=c at *;generalize m[j]=d at *;obtain⟨ck,cn,cs⟩:=c;obtain⟨dk,dn,ds⟩:=d;simp only at *;by_cases hk:ck=dk
    ·subst hk
     by_cases hn:cn=dn
     ·subst hn
      by_cases hs:cs=ds
      ·subst hs
       have HN':=ae (lz.o rfl);clear lz Rg;generalize am cs=S at *;go_wp2_with fail;go_quiet (fail)
       go_wp2_with fail;go_roundw
       case rel=>exact⟨j+1,by omega,by go_num,HN'.o,HB.o.trans ⟨rfl,rfl,rfl,jek _,fun _ _=>rfl⟩⟩
       case measure=>simp[intOf];omega
      ·have HNE':=ae (Rg.o (fun e=>hs (by simpa using e)))
       have hss:((am cs).toList==(am ds).toList)=false:=by
        rw[bI,bI];exact jev.2 (fun e=>hs (by rw[← fE HBC.o,← fE GK.o,e]))
       clear lz Rg hs;generalize am cs=S at *;generalize am ds=T at *;go_wp2_with fail;go_quiet (fail)
       go_wp2_with fail;go_ret
       rw[HNE'.o];exact⟨rfl,HB.o.trans ⟨rfl,rfl,rfl,jek _,fun _ _=>rfl⟩⟩
     ·have HNE':=ae (Rg.o (fun e=>hn (by have:=jep (fun t=>t.2.1) e;simpa using this)))
      have Zb:(cn==dn)=false:=jev.2 hn;clear lz Rg hn;generalize am cs=S at *;generalize am ds=T at *;go_wp2_with fail;go_quiet (fail)
      go_wp2_with fail;go_ret
      rw[HNE'.o];exact⟨rfl,HB.o.trans ⟨rfl,rfl,rfl,jek _,fun _ _=>rfl⟩⟩
    ·have HNE':=ae (Rg.o (fun e=>hk (by have:=jep (fun t=>t.1) e;simpa using this)))
     have GH:((ck:Int)==(dk:Int))=false:=jev.2 (by omega);clear lz Rg hk;generalize am cs=S at *;generalize am ds=T at *;go_wp2_with fail;go_quiet (fail)
     go_wp2_with fail;go_ret
     rw[HNE'.o];exact⟨rfl,HB.o.trans ⟨rfl,rfl,rfl,jek _,fun _ _=>rfl⟩⟩
   ·obtain rfl:j=l.length:=by omega
    have CV:jgf (decide (l=m)=true):=ae (jeB (by
     have:=WH.o;rw[jes]at this;rw[this,CU.o,jes]))
    have gi:¬ ((l.length:Nat):Int)<(l.length:Int):=(by omega);go_wp2_with fail;go_ret
    rw[CV.o];exact⟨rfl,HB.o⟩
 ·have fJ:(((l.length:Nat):Int) != (m.length:Int))=true:=by
   have:(l.length:Int)≠(m.length:Int):=by omega
   simpa using this
  have CV:jgf (decide (l=m)=false):=ae (jeu (fun e=>bR (by rw[e])));clear bR;go_enter Tryz.func36,Tryz.ntmps36
  go_wp2_with fail;go_ret
  rw[CV.o];exact⟨rfl,jej _ _⟩
theorem BU(k:Nat)(w:World):Calls Tryz.prog 164 #[.int .u8 (k:Int)] w fun e w'=>e=.returned (.bool (ld k))/\w'=w:=by
 by_cases h1:((k:Int)==1)=true
 ·have hk:k=1:=by have:(k:Int)=1:=(by simpa using h1);omega
  subst hk;go_enter Tryz.func164,Tryz.ntmps164
  go_wp2;go_ret
  exact⟨rfl,rfl⟩
 ·by_cases h2:((k:Int)==2)=true
  ·have hk:k=2:=by have:(k:Int)=2:=(by simpa using h2);omega
   subst hk;go_enter Tryz.func164,Tryz.ntmps164
   go_wp2;go_ret
   exact⟨rfl,rfl⟩
  ·by_cases h3:((k:Int)==3)=true
   ·have hk:k=3:=by have:(k:Int)=3:=(by simpa using h3);omega
    subst hk;go_enter Tryz.func164,Tryz.ntmps164
    go_wp2;go_ret
    exact⟨rfl,rfl⟩
   ·have h1':((k:Int)==1)=false:=by simpa using h1
    have h2':((k:Int)==2)=false:=by simpa using h2
    have h3':((k:Int)==3)=false:=by simpa using h3
    have HN:jgf (ld k=false):=ae (by
     have a1:(k:Int)≠1:=by simpa using h1
     have a2:(k:Int)≠2:=by simpa using h2
     have a3:(k:Int)≠3:=by simpa using h3
     exact jeu (by omega))
    rw[HN.o];clear h1 h2 h3;go_enter Tryz.func164,Tryz.ntmps164
    go_wp2;go_ret
    exact⟨rfl,rfl⟩
theorem Jl{w:World}{v:Value}{l:List Fd}(hs:Sf w v l):Calls Tryz.prog 162 #[v] w fun e w'=>e=.returned (.int .u32 (fd l:Int))/\w'=w:=by
 obtain⟨a,cap,rfl,aW,bC⟩:=hs.form;by_cases hl:l.length=0
 ·have h0:((l.length:Int)==0)=true:=by simp[hl]
  have HN:jgf (fd l=0):=ae (by rw[jeI hl];rfl);clear hs hl;go_enter Tryz.func162,Tryz.ntmps162
  go_wp2;go_ret
  rw[HN.o];exact⟨rfl,rfl⟩
 ·obtain⟨b,off,rfl,hb,c0,c1,c2,c3⟩:=hs.at (k:=l.length-1) (by omega)
  have HN:=ae (MQ (l:=l) (by omega));have h0:((l.length:Int)==0)=false:=by simp[hl]
  obtain⟨m,hm⟩:∃ m,l.length=m+1:=⟨l.length-1,by omega⟩;have hq:((l.length:Int)-1)=(m:Int):=by omega
  have e1:l.length-1=m:=by omega
  generalize hx:(l[l.length-1]'(by omega)).1=x at *;rw[e1]at c0;clear hs hx c1 c2 c3 e1 hl;go_enter Tryz.func162,Tryz.ntmps162
  go_wp2;go_ret
  rw[HN.o];exact⟨rfl,rfl⟩
end Go.Proofs.YtpljdjmpamjkhaaGreatDoor
