import Derived.Test.YtpljdjmpamjkhaaGreatDoorXam
import Derived.Deep.AppendLies
set_option linter.unusedVariables false
set_option linter.unusedSimpArgs false
set_option maxRecDepth 100000
set_option maxHeartbeats 8000000
namespace Go.Proofs.YtpljdjmpamjkhaaGreatDoor
open Go.RowKit Go.Lib
theorem de(w:World)(o:Obj):Below w.heap.size w (w.alloc o):=(jdv _ _).alloc (jdw _) _
theorem DE{x:Int}:∀{u:List Int} {k:Nat} (h:k<u.length),(∀ j (hj:j<k),u[j]'(by omega)≠x)->u[k]=x->pl u x=k
 | y::t,0,_,_,h=>by
  unfold pl;rw[jdu (by simpa using h)]
 | y::t,k+1,hk,ha,h=>by
  have h0:=ha 0 (by omega);unfold pl;rw[jdt (by simpa using h0),DE (u:=t) (k:=k) (by simpa using hk) (fun j hj=>by have:=ha (j+1) (by omega);simpa using this) (by simpa using h)]
theorem Ha{w:World}{v:Value}{u:List Int}(hs:Sv w v (aL u))(hl:u.length<=256)(x:Int)(hx:x∈u) :
  Calls Tryz.prog 177 #[v,.int .i64 x] w fun e w'=>e=.returned (.int .u64 (pl u x:Int))/\w'=w:=by
 have HS:=ae hs;have kN:=vO hx;have HP:=ae kN;obtain⟨a,cap,rfl,aW,bw⟩:=hs.form;have HF:jfp (∀ k (h:k<u.length),(∀ j (hj:j<k),u[j]'(by omega)≠x)->u[k]=x->pl u x=k):=fun k h h1 h2=>DE h h1 h2
 clear hs aW bw kN hx;go_enter Tryz.func177,Tryz.ntmps177
 go_wp2_with fail;go_loopw [5] (fun i wr=>wr=w/\∃ k:Nat,k<=u.length/\i=.int .i64 (k:Int)/\∀ j (hj:j<k) (h:j<u.length),u[j]≠x) (fun i _=>u.length-(intOf i).toNat)
 case atStart=>exact⟨rfl,0,by omega,rfl,fun j h=>by omega⟩
 case round =>
  obtain⟨rfl,k,hk,rfl,cX⟩:=hrel;have HL:=ae cX;clear cX;by_cases aB:k<u.length
  ·have oZ:(k:Int)<(u.length:Int):=by omega
   obtain⟨b,off,rfl,_,ek⟩:=HS.o.at aB;by_cases he:(u[k]==x)=true
   ·have HE:=ae (HF.o k aB (fun j hj=>HL.o j hj (by omega)) (by simpa using he))
    generalize u[k]=y at *;go_wp2_with fail;go_ret
    rw[HE.o];exact⟨rfl,rfl⟩
   ·have hef:(u[k]==x)=false:=by simpa using he
    have HN:jfp (∀ j (hj:j<k+1) (h:j<u.length),u[j]≠x):=by
     intro j hj h;rcases jdY j k with h1 | h1
     ·exact HL.o j h1 h
     ·have:j=k:=by omega
      subst this;simpa using he
    clear he;generalize u[k]=y at *;go_wp2_with fail;go_roundw
    case rel=>exact⟨trivial,k+1,by omega,by go_num,HN.o⟩
    case measure=>simp[intOf];omega
  ·exfalso
   obtain⟨h1,h2⟩:=HP.o;rw[List.getElem?_eq_getElem h1]at h2;exact HL.o (pl u x) (by omega) h1 (Option.some.inj h2)
def ld(x:Int)(u pre:List Int)(d:Bool)(k:Nat):Prop:=pre++(if d then u.drop k else ins x (u.drop k))=ins x u
theorem ld.step{x:Int}{u pre:List Int}{d:Bool}{k:Nat}(h:ld x u pre d k)(hk:k<u.length) :
  (d=true->ld x u (pre++[u[k]]) true (k+1))/\(d=false->u[k]=x->ld x u (pre++[u[k]]) true (k+1))/\(d=false->x<u[k]->ld x u ((pre++[x])++[u[k]]) true (k+1))/\(d=false->u[k]≠x->¬ x<u[k]->ld x u (pre++[u[k]]) false (k+1)):=by
 unfold ld at *;rw[jec hk]at h;refine⟨fun hd=>?_,fun hd he=>?_,fun hd he=>?_,fun hd he hn=>?_⟩
 ·subst hd
  rw[jdu rfl]at h ⊢;rw[← h];simp
 ·subst hd
  rw[jdt (by simp),ins,jdu he.symm]at h;rw[jdu rfl,← h];simp
 ·subst hd
  rw[jdt (by simp),ins,jdt (by omega),jdu he]at h;rw[jdu rfl,← h];simp
 ·subst hd
  rw[jdt (by simp),ins,jdt (fun e=>he e.symm),jdt hn]at h;rw[jdt (by simp),← h];simp
theorem ld.last{x:Int}{u pre:List Int}{d:Bool}(h:ld x u pre d u.length):(d=true->pre=ins x u)/\(d=false->pre++[x]=ins x u):=by
 unfold ld at h;rw[jer]at h;refine⟨fun hd=>?_,fun hd=>?_⟩
 ·subst hd
  simpa using h
 ·subst hd
  simpa [ins]using h
theorem ld.len{x:Int}{u pre:List Int}{d:Bool}{k:Nat}(h:ld x u pre d k):pre.length<=u.length+1:=by
 unfold ld at h;have h1:=jdB List.length h;have h2:=pN (x:=x) (u:=u);rw[jdy]at h1;omega
theorem wH{w:World}{v:Value}{l:List Int}(hs:Sv w v (aL l))(hl:l.length<=256) :
  Calls Tryz.prog 176 #[v] w fun e w'=>(∃ v',e=.returned v'/\bC w' w.heap.size v' (cH l))/\Below w.heap.size w w':=by
 have HS:=ae hs;obtain⟨a,cap,rfl,aW,bw⟩:=hs.form;clear hs aW bw;go_enter Tryz.func176,Tryz.ntmps176
 go_wp2_with fail;go_loopw [3,4] (fun vo i wr=>∃ k:Nat,k<=l.length/\i=.int .i64 (k:Int)/\bC wr w.heap.size vo (cH (l.take k))/\Below w.heap.size w wr) (fun _ i _=>l.length-(intOf i).toNat)
 case atStart=>exact⟨0,by omega,rfl,bC.nil _ _,jdv _ _⟩
 case round =>
  obtain⟨i,hi,rfl,how,az⟩:=hrel;have HO:=ae how;have HB:=ae az;have bF:=az.size;obtain⟨ao,co,rfl⟩:=how.len;clear how az;by_cases aB:i<l.length
  ·have oZ:(i:Int)<(l.length:Int):=by omega
   have HU:=ae (vN aB);have uE:=fK (l.take i);rw[jdC]at uE;obtain⟨bl,offl,rfl,fT,eQ⟩:=(HS.o.kept HB.o).at aB;generalize l[i]=x at *;generalize cH (l.take i)=u at *;have UN:u.length<=256:=(by omega);generalize wr=W1 at *;go_wp2_with fail;go_loopw [5,6,7] (fun vn vd j wq=>∃(k:Nat) (pre:List Int) (d:Bool),k<=u.length/\j=.int .i64 (k:Int)/\vd=.bool d/\bC wq W1.heap.size vn pre/\ld x u pre d k/\Below W1.heap.size W1 wq) (fun _ _ j _=>u.length-(intOf j).toNat)
   case atStart=>exact⟨0,[],false,by omega,rfl,rfl,bC.nil _ _,rfl,jdv _ _⟩
   case round =>
    obtain⟨k,pre,d,hk,rfl,rfl,hon,hia,yC⟩:=hrel;have Ac:=ae hon;have HIA:=ae hia;have pb:=ae yC;have yA:=yC.size;have kN:=hia.len;obtain⟨an,cn,rfl⟩:=hon.len;clear hon hia yC;have fd:jfp (∀ n z,Below W1.heap.size W1 ((wr.drewN n).alloc (.cells #[.int .i64 z] 2))):=fun n z=>(ap pb.o n).alloc yA _
    have Ku:jfp (∀ n z,W1.heap.size<=((wr.drewN n).alloc (.cells #[.int .i64 z] 2)).heap.size):=fun n z=>by rw[jdx];exact Nat.le_succ_of_le yA
    have nw:jfp (∀ n z,bC ((wr.drewN n).alloc (.cells #[.int .i64 z] 2)) W1.heap.size (.slice an pre.length cn) pre):=fun n z=>(Ac.o.kept (ap (jdv _ _) n)).kept (de _ _)
    by_cases pC:k<u.length
    ·have jbw:(k:Int)<(u.length:Int):=by omega
     obtain⟨b2,off2,Ad,aE,FF⟩:=HO.o.sv.at pC;cases Ad
     have jT:=(pb.o.cell (p:=⟨b2,off2+k,none⟩) aE).trans FF;have jbx:=(pb.o.cell (p:=⟨bl,offl+i,none⟩) fT).trans eQ;have HSt:=ae (HIA.o.step pC);have jby:=ae FF;clear HIA FF;generalize u[k]=y at *;cases d with
     | true =>
      have rX:=ae (HSt.o.1 rfl);by_cases Kv:(y==x)=true
      ·go_wp2_with fail
       go_quiet (fail)
       go_wp2_with fail;go_quiet (fail)
       go_wp2_with (first | (at_builtin;refine aY rfl _ _ rfl W1.heap.size _ _ y pre rfl (nw.o _ y) rfl (aK _ _ _) ?c2 ?c3 ?_))
       case c2=>omega
       case c3=>first | omega | exact Ku.o _ _
       intro v7 w7 o7 b7;have iD:=ae o7;have io:=ae ((fd.o _ y).trans b7);clear o7 b7;go_wp2_with fail;go_roundw
       case rel=>exact⟨k+1,_,true,by omega,by go_num,rfl,iD.o,rX.o,io.o⟩
       case measure=>simp[intOf];omega
      ·have jbz:(y==x)=false:=by simpa using Kv
       clear Kv;go_wp2_with fail;go_quiet (fail)
       go_wp2_with fail;go_quiet (fail)
       go_wp2_with (first | (at_builtin;refine aY rfl _ _ rfl W1.heap.size _ _ y pre rfl (nw.o _ y) rfl (aK _ _ _) ?c2 ?c3 ?_))
       case c2=>omega
       case c3=>first | omega | exact Ku.o _ _
       intro v7 w7 o7 b7;have iD:=ae o7;have io:=ae ((fd.o _ y).trans b7);clear o7 b7;go_wp2_with fail;go_roundw
       case rel=>exact⟨k+1,_,true,by omega,by go_num,rfl,iD.o,rX.o,io.o⟩
       case measure=>simp[intOf];omega
     | false =>
      by_cases Kv:(y==x)=true
      ·have rX:=ae (HSt.o.2.1 rfl (by simpa using Kv))
       go_wp2_with fail;go_quiet (fail)
       go_wp2_with fail;go_quiet (fail)
       go_wp2_with (first | (at_builtin;refine aY rfl _ _ rfl W1.heap.size _ _ y pre rfl (nw.o _ y) rfl (aK _ _ _) ?c2 ?c3 ?_))
       case c2=>omega
       case c3=>first | omega | exact Ku.o _ _
       intro v7 w7 o7 b7;have iD:=ae o7;have io:=ae ((fd.o _ y).trans b7);clear o7 b7;go_wp2_with fail;go_roundw
       case rel=>exact⟨k+1,_,true,by omega,by go_num,rfl,iD.o,rX.o,io.o⟩
       case measure=>simp[intOf];omega
      ·have jbz:(y==x)=false:=by simpa using Kv
       have Kw:y≠x:=by simpa using Kv
       clear Kv;by_cases Cn:x<y
       ·have jbA:decide (x<y)=true:=jdO Cn
        have rX:=ae (HSt.o.2.2.1 rfl Cn);clear Kw;go_wp2_with fail;go_quiet (fail)
        go_wp2_with fail;go_quiet (fail)
        go_wp2_with (first | (at_builtin;refine aY rfl _ _ rfl W1.heap.size _ _ x pre rfl (nw.o _ x) rfl (aK _ _ _) ?c2 ?c3 ?_))
        case c2=>omega
        case c3=>first | omega | exact Ku.o _ _
        intro v6 w6 o6 b6;have mT:=ae o6;have ja:=ae ((fd.o _ x).trans b6);have hc6:=(ja.o.cell (p:=⟨b2,off2+k,none⟩) aE).trans jby.o;have FD:=ja.o.size;have Af:=ae (o6.kept (de w6 (.cells #[.int .i64 y] 2)));clear o6 b6;go_wp2_with (first | (at_builtin;refine aY rfl _ _ rfl W1.heap.size _ _ y (pre++[x]) rfl Af.o rfl (aK _ _ _) ?c2 ?c3 ?_))
        case c2=>simp;omega
        case c3=>first | omega | (rw[jdx];omega)
        intro v7 w7 o7 b7;have o7':bC w7 W1.heap.size v7 (pre++[x]++[y]):=by simpa using o7
        have iD:=ae o7';have io:=ae ((ja.o.alloc FD (.cells #[.int .i64 y] 2)).trans b7);clear o7 o7' b7;go_wp2_with fail;go_roundw
        case rel=>exact⟨k+1,_,true,by omega,by go_num,rfl,iD.o,rX.o,io.o⟩
        case measure=>simp[intOf];omega
       ·have jbA:decide (x<y)=false:=jdK Cn
        have rX:=ae (HSt.o.2.2.2 rfl Kw Cn);clear Kw;go_wp2_with fail;go_quiet (fail)
        go_wp2_with fail;go_quiet (fail)
        go_wp2_with (first | (at_builtin;refine aY rfl _ _ rfl W1.heap.size _ _ y pre rfl (nw.o _ y) rfl (aK _ _ _) ?c2 ?c3 ?_))
        case c2=>omega
        case c3=>first | omega | exact Ku.o _ _
        intro v7 w7 o7 b7;have iD:=ae o7;have io:=ae ((fd.o _ y).trans b7);clear o7 b7;go_wp2_with fail;go_roundw
        case rel=>exact⟨k+1,_,false,by omega,by go_num,rfl,iD.o,rX.o,io.o⟩
        case measure=>simp[intOf];omega
    ·obtain rfl:k=u.length:=by omega
     have jbw:¬ (u.length:Int)<(u.length:Int):=(by omega);have Yi:=ae HIA.o.last;cases d with
     | true =>
      have e:=Yi.o.1 rfl;have jbB:jfp (bC wr w.heap.size (.slice an pre.length cn) (cH (l.take (i+1)))):=ae (by rw[HU.o,← e];exact Ac.o.low bF);clear e;go_wp2_with fail;go_roundw
      case rel=>exact⟨i+1,by omega,by go_num,jbB.o,HB.o.trans (pb.o.mono bF)⟩
      case measure=>simp[intOf];omega
     | false =>
      have HE:=ae (Yi.o.2 rfl);have jbx:=(pb.o.cell (p:=⟨bl,offl+i,none⟩) fT).trans eQ;have yD:=ae (Ac.o.kept (de wr (.cells #[.int .i64 x] 2)));have yE:=ae (pb.o.alloc yA (.cells #[.int .i64 x] 2));go_wp2_with (first | (at_builtin;refine aY rfl _ _ rfl W1.heap.size _ _ x pre rfl yD.o rfl (aK _ _ _) ?c2 ?c3 ?_))
      case c2=>omega
      case c3=>first | omega | (rw[jdx];omega)
      intro v7 w7 o7 b7;have iD:jfp (bC w7 w.heap.size v7 (cH (l.take (i+1)))):=ae (by rw[HU.o,← HE.o];exact o7.low bF);have io:=ae (HB.o.trans ((yE.o.trans b7).mono bF));clear o7 b7;go_wp2_with fail;go_roundw
      case rel=>exact⟨i+1,by omega,by go_num,iD.o,io.o⟩
      case measure=>simp[intOf];omega
  ·obtain rfl:i=l.length:=by omega
   have oZ:¬ (l.length:Int)<(l.length:Int):=(by omega);rw[jdE]at HO;go_wp2_with fail;go_ret
   exact⟨⟨_,rfl,HO.o⟩,HB.o⟩
def mI(bs:List Nat)(w:World)(e:Ending)(w':World):Prop:=(∃ v',e=.returned (.tuple #[v',.bool true])/\aD w' w.heap.size v' bs)/\Below w.heap.size w w'
theorem po{w:World}{ops:Array Oper}{o:Oper}{a:Act}{K:Act->World->Prop}{Q:Exit->Act->World->Prop}{E:Prop}(ex:o.guard=none)(s x:Operand)
  (ho:o.op=.call { callee:=.builtin .append,args:=#[s,x],argTypes:=#[30,30] })
  (base B2:Nat) (v vx:Value) (l0 l:List Nat) (hs:a.eval s=v) (aA:aD w base v l0) (hx:a.eval x=vx) (fG:aD w B2 vx l) (hp:0<l.length)
  (hbytes:l0.length+l.length<=100000) (aJ:base<=w.heap.size)
  (h:∀ v' w',aD w' base v' (l0++l)->Below base w w'->K (a.put o.dst v') w') :
  if Region.wanted o (yielded ops a.tmps)=true then Oper.wp Tryz.prog o a w K Q else E:=by
 obtain⟨i0,hi,ct,hz1',bv⟩:=jdP jk;obtain⟨g,cap,rfl,hB,hg⟩:=oJ fG hp;have hc:∀ j u,(aF .u8 l)[j]?=some u->w.cell? ((⟨g,0,none⟩:Addr).add j)=some u:=fun j u hj=>fG.cells (g:=g) rfl j u hj
 unfold aD at aA;refine step_append_lies (P:=Tryz.prog) w ex s x 30 ho base 5 i0 (.int .u8 0) 1 1 Tryz.underlying30 hi ct hz1' bv rfl (by decide) v l0.length (aF .u8 l0) hs aA ⟨g,0,none⟩ l.length cap (aF .u8 l) hx (by rw[ar];omega) hc (fU _ _) hp (by unfold maxLen;omega) (by omega) aJ _ rfl ?_;intro g' cap' w' o1 g1 _ _;refine h _ w' ?_ ((jdv base w).grown g1 aJ (fun k hk=>(aA.lt k hk).1));unfold aD;rw[cd,jdy];exact o1
theorem DF{w:World}{v:Value}{l:List Int}(hs:Sv w v (aL l))(hl:l.length<=256)(hi:Is l) :
  Calls Tryz.prog 135 #[.int .i64 0,v] w (mI (gy l) w):=by
 have HI:=ae hi;have HS:=ae hs;obtain⟨a,cap,rfl,aW,bw⟩:=hs.form;have uT:¬ (l.length:Int) > 256:=by omega
 clear hs hi aW bw;go_enter Tryz.func135,Tryz.ntmps135
 go_wp2_with fail;go_loopw [6,7] (fun b i wr=>∃ k:Nat,k<=l.length/\i=.int .i64 (k:Int)/\aD wr w.heap.size b (gy (l.take k))/\Below w.heap.size w wr) (fun _ i _=>l.length-(intOf i).toNat)
 case atStart=>exact⟨0,by omega,rfl,aD.nil _ _,jdv _ _⟩
 case round =>
  obtain⟨k,hk,rfl,aA,az⟩:=hrel;have HO:=ae aA;have HB:=ae az;have bF:=az.size;clear aA az;by_cases aB:k<l.length
  ·have oZ:(k:Int)<(l.length:Int):=by omega
   obtain⟨b,off,rfl,hb,ek⟩:=(HS.o.kept HB.o).at aB;have HX:=ae (HI.o.get aB);have HT:=ae (zj aB);have jw:=(lS (HI.o.take k)).1;rw[jdC]at jw;have Fz:=fq (HI.o.get aB);generalize l[k]=x at *;generalize gy (l.take k)=acc at *;go_wp2_with fail;refine(dm HX.o _).mono ?_;rintro e w2 ⟨⟨v2,rfl,cB⟩,aE⟩;have du:=ae cB;have HOk:=ae (HO.o.kept aE);have aO:=ae (HB.o.trans (aE.mono bF));have bv:=aE.size;clear cB aE;go_wp2_with (first | (at_builtin;refine ax rfl _ _ rfl w.heap.size _ _ acc (wv x) rfl HOk.o rfl du.o.sv ?c1 ?c2 ?_))
   case c1=>omega
   case c2=>omega
   intro v3 w3 o3 b3;have dh:=ae o3;have bP:=ae (aO.o.trans b3);clear o3 b3;go_wp2_with fail;go_roundw
   case rel=>exact⟨k+1,by omega,by go_num,by rw[HT.o];exact dh.o,bP.o⟩
   case measure=>simp[intOf];omega
  ·obtain rfl:k=l.length:=by omega
   have oZ:¬ (l.length:Int)<(l.length:Int):=(by omega);rw[jdE]at HO;go_wp2_with fail;go_ret2
   exact⟨⟨_,rfl,HO.o⟩,HB.o⟩
theorem DG{w:World}{v:Value}{l:List Int}(hs:Sv w v (aL l))(hl:l.length<=256)(hi:Is l) :
  Calls Tryz.prog 135 #[.int .i64 1,v] w (mI (iI 0 l) w):=by
 have HI:=ae hi;have HS:=ae hs;obtain⟨a,cap,rfl,aW,bw⟩:=hs.form;have uT:¬ (l.length:Int) > 256:=by omega
 clear hs hi aW bw;go_enter Tryz.func135,Tryz.ntmps135
 go_wp2_with fail;go_loopw [6,8] (fun b i wr=>∃ k:Nat,k<=l.length/\i=.int .i64 (k:Int)/\aD wr w.heap.size b (iI 0 (l.take k))/\Below w.heap.size w wr) (fun _ i _=>l.length-(intOf i).toNat)
 case atStart=>exact⟨0,by omega,rfl,aD.nil _ _,jdv _ _⟩
 case round =>
  obtain⟨k,hk,rfl,aA,az⟩:=hrel;have HO:=ae aA;have HB:=ae az;have bF:=az.size;clear aA az;by_cases aB:k<l.length
  ·have oZ:(k:Int)<(l.length:Int):=by omega
   obtain⟨b,off,rfl,hb,BW⟩:=HS.o.at aB;have ek:=(HB.o.cell (p:=⟨b,off+k,none⟩) hb).trans BW;clear BW;have HX:=ae (je (l[k]-ahd l k));have HT:=ae (zl aB);have jw:=(oC (l:=l.take k) (last:=0)).1;rw[jdC]at jw;have Fz:=fq (je (l[k]-ahd l k));have tn:=jag (w64 (l[k]-ahd l k));cases k with
   | zero =>
    have e0:w64 (l[0]-ahd l 0)=l[0]:=by
     unfold ahd;rw[jdu rfl,Int.sub_zero,Rj (HI.o.get aB)]
    rw[e0]at HX HT Fz tn;rw[jej]at ek;clear e0;generalize iI 0 (l.take 0)=acc at *;generalize l[0]=x at *;go_wp2_with fail;refine(dm HX.o _).mono ?_;rintro e w2 ⟨⟨v2,rfl,cB⟩,aE⟩;have du:=ae cB;have HOk:=ae (HO.o.kept aE);have aO:=ae (HB.o.trans (aE.mono bF));have bv:=aE.size;clear cB aE;go_wp2_with (first | (at_builtin;refine ax rfl _ _ rfl w.heap.size _ _ acc (wv x) rfl HOk.o rfl du.o.sv ?c1 ?c2 ?_))
    case c1=>omega
    case c2=>omega
    intro v3 w3 o3 b3;have dh:=ae o3;have bP:=ae (aO.o.trans b3);clear o3 b3;go_wp2_with fail;go_roundw
    case rel=>exact⟨1,by omega,by go_num,by rw[HT.o];exact dh.o,bP.o⟩
    case measure=>simp[intOf];omega
   | succ k =>
    obtain⟨b',off',Ad,_,Yc⟩:=(HS.o.kept HB.o).at (show k<l.length by omega);cases Ad
    rw[Dw (show k<l.length by omega)]at HX HT Fz tn;have h1:=HI.o.get aB;have h2:=HI.o.get (show k<l.length by omega);have ql:(((k+1:Nat):Int)==0)=false:=jdG.2 (by omega);have qp:((k+1:Nat):Int)-1=(k:Int):=(by omega);have hj1:(0:Int)<=(k:Int)+1:=(by omega);have LN:(k:Int)+1<(l.length:Int):=(by omega);have hj3:((k:Int)+1).toNat=k+1:=(by omega);have hj4:(0:Int)<=(k:Int):=(by omega);have hj5:(k:Int)<(l.length:Int):=(by omega);have hj6:IntKind.i64.wrap ((k:Int)+1-1)=(k:Int):=by rw[jd7];omega
    have hj7:(k:Int)+1-1=(k:Int):=(by omega);have Qs:IntKind.i64.wrap (k:Int)=(k:Int):=by rw[jd7];omega
    obtain⟨X,hX⟩:∃ X,IntKind.u64.wrap l[k+1]=X:=⟨_,rfl⟩;obtain⟨Y,hY⟩:∃ Y,IntKind.u64.wrap l[k]=Y:=⟨_,rfl⟩;obtain⟨Z,hZ⟩:∃ Z,IntKind.u64.wrap (X-Y)=Z:=⟨_,rfl⟩
    have hD:IntKind.i64.wrap Z=w64 (l[k+1]-l[k]):=by
     rw[← hZ,← hX,← hY,← qW,jd7,jd7,jd0,jd0,jd0];omega
    clear h1 h2;generalize l[k+1]=x at *;generalize l[k]=y at *;generalize iI 0 (l.take (k+1))=acc at *;generalize w64 (x-y)=d at *
    have em:jfp (∀ n W',Below wr.heap.size (wr.drewN n) W'->W'.cell? ⟨b,off+(k+1),none⟩=some (.int .i64 x)/\W'.cell? ⟨b,off+k,none⟩=some (.int .i64 y)/\aD W' w.heap.size u6 acc/\Below w.heap.size w W'/\w.heap.size<=W'.heap.size):=ae (fun n W' h=>by
     have hb':Below wr.heap.size wr W':=(ap (jdv _ _) n).trans h;have lu:=HB.o.trans (hb'.mono bF);exact⟨(hb'.cell (p:=⟨b,off+(k+1),none⟩) (jdS hb bF)).trans ek,(hb'.cell (p:=⟨b,off+k,none⟩) (jdS hb bF)).trans Yc,HO.o.kept hb',lu,lu.size⟩)
    go_wp2_with fail
    go_region_held3 (fun w'=>w'.cell? ⟨b,off+(k+1),none⟩=some (.int .i64 x)/\w'.cell? ⟨b,off+k,none⟩=some (.int .i64 y)) (go_keep) (first
     | (go_at_call 137;refine(dm HX.o _).mono ?_;rintro e w2 ⟨⟨v2,rfl,cB⟩,aE⟩;obtain⟨Kx,py,hm3,hm4,hm5⟩:=em.o _ _ aE;have UO:=ae hm3;have PO:=ae hm4;have du:=ae cB;clear aE hm3 hm4 cB)
     | (refine po (by rfl) _ _ (by rfl) w.heap.size _ _ _ acc (wv d) (by rfl) UO.o (by rfl) du.o tn (by omega) hm5 ?_;intro v3 w3 o3 b3;have se:=(b3.cell (p:=⟨b,off+(k+1),none⟩) hb).trans Kx;have nj:=(b3.cell (p:=⟨b,off+k,none⟩) hb).trans py;have dh:=ae o3;have bP:=ae (PO.o.trans b3);clear o3 b3))
    all_goals go_wp2_with fail
    all_goals go_roundw
    case rel=>exact⟨k+1+1,by omega,by go_num,by rw[HT.o];exact dh.o,bP.o⟩
    case measure=>simp[intOf];omega
  ·obtain rfl:k=l.length:=by omega
   have oZ:¬ (l.length:Int)<(l.length:Int):=(by omega);rw[jdE]at HO;go_wp2_with fail;go_ret2
   exact⟨⟨_,rfl,HO.o⟩,HB.o⟩
def kx(l:List Int)(k c:Nat)(acc:List Nat):Prop:=(∀ h:k<l.length,acc++fJ l[k] (c+1) (l.drop (k+1))=iv l)/\(k=l.length->c=0/\acc=iv l)
theorem kx.start(l:List Int):kx l 0 0 []:=by
 cases l with
 | nil=>exact⟨fun h=>by simp at h,fun _=>⟨rfl,rfl⟩⟩
 | cons x t=>exact⟨fun _=>rfl,fun h=>by simp at h⟩
theorem kx.more{l:List Int}{k c:Nat}{acc:List Nat}(h:kx l k c acc)(hk:k+1<l.length)(he:l[k+1]=l[k]):kx l (k+1) (c+1) acc:=by
 refine⟨fun _=>?_,fun e=>by omega⟩;have:=h.1 (by omega);rw[jec hk,fJ,jdu he]at this;rw[he];exact this
theorem kx.turn{l:List Int}{k c:Nat}{acc:List Nat}(h:kx l k c acc)(hk:k+1<l.length)(he:l[k+1]≠l[k]):kx l (k+1) 0 (acc++(wv l[k]++uv (c+1))):=by
 refine⟨fun _=>?_,fun e=>by omega⟩;have:=h.1 (by omega);rw[jec hk,fJ,jdt he]at this;rw[← this];simp
theorem kx.last{l:List Int}{k c:Nat}{acc:List Nat}(h:kx l k c acc)(hk:k<l.length)(he:k+1=l.length):kx l (k+1) 0 (acc++(wv l[k]++uv (c+1))):=by
 refine⟨fun _=>by omega,fun _=>⟨rfl,?_⟩⟩;have:=h.1 hk;rw[List.drop_of_length_le (by omega),fJ]at this;exact this
theorem kx.len{l:List Int}{k c:Nat}{acc:List Nat}(h:kx l k c acc)(hk:k<=l.length):acc.length<=(iv l).length:=by
 rcases jdY k l.length with hl | hl
 ·have:=jdB List.length (h.1 hl)
  rw[jdy]at this;omega
 ·have:=(h.2 (by omega)).2
  rw[this];exact jdw _
theorem DH{w:World}{v:Value}{l:List Int}(hs:Sv w v (aL l))(hl:l.length<=256)(hi:Is l) :
  Calls Tryz.prog 135 #[.int .i64 2,v] w (mI (iv l) w):=by
 have HI:=ae hi;have HS:=ae hs;have jw:=zq hi hl;obtain⟨a,cap,rfl,aW,bw⟩:=hs.form;have uT:¬ (l.length:Int) > 256:=by omega
 clear hs hi aW bw;go_enter Tryz.func135,Tryz.ntmps135
 go_wp2_with fail;go_loopw [6,9,10] (fun b cv i wr=>∃(k c:Nat) (acc:List Nat),k<=l.length/\c<=k/\i=.int .i64 (k:Int)/\cv=.int .i64 (c:Int)/\aD wr w.heap.size b acc/\kx l k c acc/\Below w.heap.size w wr) (fun _ _ i _=>l.length-(intOf i).toNat)
 case atStart=>exact⟨0,0,[],by omega,by omega,rfl,rfl,aD.nil _ _,kx.start l,jdv _ _⟩
 case round =>
  obtain⟨k,c,acc,hk,BW,rfl,rfl,aA,hra,az⟩:=hrel;have HO:=ae aA;have HB:=ae az;have HRA:=ae hra;have hacl:=hra.len hk;have bF:=az.size;clear aA az hra;by_cases aB:k<l.length
  ·have oZ:(k:Int)<(l.length:Int):=by omega
   obtain⟨b,off,rfl,hb,qk⟩:=HS.o.at aB;have lp:=(HB.o.cell (p:=⟨b,off+k,none⟩) hb).trans qk;have HX:=ae (HI.o.get aB);have Fz:=fq (HI.o.get aB);have UH:=bM (n:=c+1) (by omega);obtain⟨d,hd⟩:∃ d,c+1=d:=⟨_,rfl⟩;have nZ:(c:Int)+1=(d:Int):=(by omega);have hd256:d<=256:=(by omega);have hdk:d<=k+1:=(by omega);rw[hd]at UH;by_cases uj:k+1=l.length
   ·have hdl:((k:Int)==(l.length:Int)-1)=true:=beq_iff_eq.2 (by omega)
    have jb:=ae (HRA.o.last aB uj);rw[hd]at jb;clear uj qk hd BW;generalize l[k]=x at *;go_wp2_with fail;go_quiet (fail)
    go_wp2_with fail;refine(dm HX.o _).mono ?_;rintro e w2 ⟨⟨v2,rfl,cB⟩,aE⟩;have du:=ae cB;have HOk:=ae ((HO.o.kept (ap (jdv _ _) nq)).kept aE);have aO:=ae ((ap HB.o nq).trans (aE.mono bF));have bv:=aO.o.size;clear cB aE;go_wp2_with (first | (at_builtin;refine ax rfl _ _ rfl w.heap.size _ _ acc (wv x) rfl HOk.o rfl du.o.sv ?c1 ?c2 ?_))
    case c1=>omega
    case c2=>omega
    intro v3 w3 o3 b3;have dh:=ae o3;have bP:=ae (aO.o.trans b3);have iH:=bP.o.size;clear o3 b3;go_wp2_with fail;refine(bG d (by omega) _).mono ?_;rintro e w4 ⟨⟨v4,rfl,ui⟩,bK⟩;have eR:=ae ui;have HOk4:=ae (dh.o.kept bK);have cx:=ae (bP.o.trans (bK.mono iH));have Ki:=cx.o.size;clear ui bK;go_wp2_with (first | (at_builtin;refine ax rfl _ _ rfl w.heap.size _ _ (acc++wv x) (uv d) rfl HOk4.o rfl eR.o.sv ?c3 ?c4 ?_))
    case c3=>simp;omega
    case c4=>omega
    intro v5 w5 o5 b5;have o5':aD w5 w.heap.size v5 (acc++(wv x++uv d)):=by simpa using o5
    have dE:=ae o5';have aR:=ae (cx.o.trans b5);clear o5 o5' b5;go_wp2_with fail;go_roundw
    case rel=>exact⟨k+1,0,_,by omega,by omega,by go_num,rfl,dE.o,jb.o,aR.o⟩
    case measure=>simp[intOf];omega
   ·have qp:k+1<l.length:=by omega
    have hdl:((k:Int)==(l.length:Int)-1)=false:=jdG.2 (by omega);have hj1:(k:Int)+1<(l.length:Int):=(by omega);obtain⟨b',off',Ad,_,jT⟩:=HS.o.at qp;cases Ad
    have Qw:=(HB.o.cell (p:=⟨b,off+(k+1),none⟩) hb).trans jT;by_cases he:l[k+1]=l[k]
    ·have jb:=ae (HRA.o.more qp he)
     rw[hd]at jb;have Zq:(l[k+1] != l[k])=false:=by simpa using he
     clear uj qk hd BW jT he;generalize l[k]=x at *;generalize l[k+1]=y at *;go_wp2_with fail;go_quiet (fail)
     go_wp2_with fail;go_roundw
     case rel=>exact⟨k+1,d,acc,by omega,by omega,by go_num,rfl,HO.o.kept (ap (jdv _ _) nq),jb.o,ap HB.o nq⟩
     case measure=>simp[intOf];omega
    ·have jb:=ae (HRA.o.turn qp he)
     rw[hd]at jb;have Zq:(l[k+1] != l[k])=true:=by simpa using he
     clear uj qk hd BW jT he;generalize l[k]=x at *;generalize l[k+1]=y at *;go_wp2_with fail;go_quiet (fail)
     go_wp2_with fail;refine(dm HX.o _).mono ?_;rintro e w2 ⟨⟨v2,rfl,cB⟩,aE⟩;have du:=ae cB;have HOk:=ae ((HO.o.kept (ap (jdv _ _) nq)).kept aE);have aO:=ae ((ap HB.o nq).trans (aE.mono bF));have bv:=aO.o.size;clear cB aE;go_wp2_with (first | (at_builtin;refine ax rfl _ _ rfl w.heap.size _ _ acc (wv x) rfl HOk.o rfl du.o.sv ?c1 ?c2 ?_))
     case c1=>omega
     case c2=>omega
     intro v3 w3 o3 b3;have dh:=ae o3;have bP:=ae (aO.o.trans b3);have iH:=bP.o.size;clear o3 b3;go_wp2_with fail;refine(bG d (by omega) _).mono ?_;rintro e w4 ⟨⟨v4,rfl,ui⟩,bK⟩;have eR:=ae ui;have HOk4:=ae (dh.o.kept bK);have cx:=ae (bP.o.trans (bK.mono iH));have Ki:=cx.o.size;clear ui bK;go_wp2_with (first | (at_builtin;refine ax rfl _ _ rfl w.heap.size _ _ (acc++wv x) (uv d) rfl HOk4.o rfl eR.o.sv ?c3 ?c4 ?_))
     case c3=>simp;omega
     case c4=>omega
     intro v5 w5 o5 b5;have o5':aD w5 w.heap.size v5 (acc++(wv x++uv d)):=by simpa using o5
     have dE:=ae o5';have aR:=ae (cx.o.trans b5);clear o5 o5' b5;go_wp2_with fail;go_roundw
     case rel=>exact⟨k+1,0,_,by omega,by omega,by go_num,rfl,dE.o,jb.o,aR.o⟩
     case measure=>simp[intOf];omega
  ·obtain rfl:k=l.length:=by omega
   have oZ:¬ (l.length:Int)<(l.length:Int):=(by omega);have du:jfp (aD wr w.heap.size u6 (iv l)):=ae (by rw[← (HRA.o.2 rfl).2];exact HO.o);go_wp2_with fail;go_ret2
   exact⟨⟨_,rfl,du.o⟩,HB.o⟩
def wI(f:Fd):List Value:=[.int .u32 (f.1:Int),.string f.2.1,.int .u8 (f.2.2.1:Int),.bool f.2.2.2]
def pX(f:Fd):Value:=.agg #[.int .u32 (f.1:Int),.string f.2.1,.int .u8 (f.2.2.1:Int),.bool f.2.2.2]
def fx(l:List Fd):List Value:=l.flatMap wI
theorem AU(a b:List Fd):fx (a++b)=fx a++fx b:=jeH
theorem kz(c:Fd)(l:List Fd):fx (c::l)=wI c++fx l:=jeQ
theorem jP:∀ l:List Fd,(fx l).length=l.length*4
 | []=>rfl
 | c::t=>by
  rw[kz,jdy,jP t,jdD];simp[wI]
  omega
theorem sK:∀{l:List Fd} {j:Nat} (h:j<l.length),(fx l)[j*4]?=some (.int .u32 (l[j].1:Int))/\(fx l)[j*4+1]?=some (.string l[j].2.1)/\(fx l)[j*4+2]?=some (.int .u8 (l[j].2.2.1:Int))/\(fx l)[j*4+3]?=some (.bool l[j].2.2.2)
 | c::t,0,h=>by simp[kz,wI]
 | c::t,j+1,h=>by
  have ih:=sK (l:=t) (j:=j) (by simpa using h);rw[kz]
  have e:∀ k,(wI c++fx t)[(j+1)*4+k]?=(fx t)[j*4+k]?:=fun k=>by
   rw[List.getElem?_append_right (by simp[wI];omega)];simp only[wI,jdD,jdX];congr 1
   omega
  have e0:=e 0;simp only[jej]at e0;rw[e0,e 1,e 2,e 3];simpa using ih
theorem AV(f:Fd):∀ u∈wI f,u.oneCell'=true:=by
 intro u hu;unfold wI at hu;simp only[jdN,jfc,or_false]at hu;rcases hu with rfl | rfl | rfl | rfl<;>rfl
theorem yd(l:List Fd):∀ u∈fx l,u.oneCell'=true:=by
 intro u hu;obtain⟨f,_,h⟩:=List.mem_flatMap.1 hu;exact AV f u h
theorem Hb(l:List Fd)(k:Nat):fx (l.take k)=(fx l).take (k*4):=by
 induction l generalizing k with
 | nil=>simp[fx]
 | cons f t ih =>
  cases k with
  | zero=>simp[fx]
  | succ k =>
   have hl:(wI f).length=4:=rfl;rw[jfd,kz,kz,ih,List.take_append,hl,jee (l:=wI f) (by rw[hl];omega)];congr 2
   omega
def Sf(W:World)(v:Value)(l:List Fd):Prop :=
 ∃ a cap,v=.slice a l.length cap/\l.length<=cap/\cap<=maxLen/\(a=none->cap=0)/\(0<l.length->∃ b off,a=some ⟨b,off,none⟩/\b<W.heap.size/\∀ j x,(fx l)[j]?=some x->W.cell? ⟨b,off+j,none⟩=some x)
theorem Sf.kept{W W':World}{v:Value}{l:List Fd}(h:Sf W v l)(hb:Below W.heap.size W W'):Sf W' v l:=by
 obtain⟨a,cap,h1,h2,h3,h0,h4⟩:=h;refine⟨a,cap,h1,h2,h3,h0,fun h0=>?_⟩;obtain⟨b,off,h5,h6,h7⟩:=h4 h0;exact⟨b,off,h5,jdS h6 hb.size,fun j x hj=>(hb.cell (p:=⟨b,off+j,none⟩) h6).trans (h7 j x hj)⟩
theorem Sf.nil(W:World):Sf W (.slice none 0 0) []:=⟨none,0,rfl,jdw _,by unfold maxLen;omega,fun _=>rfl,fun h=>by simp at h⟩
theorem Sf.form{W:World}{v:Value}{l:List Fd}(h:Sf W v l):∃ a cap,v=.slice a l.length cap/\l.length<=cap/\cap<=9223372036854775807:=by
 obtain⟨a,cap,h1,h2,h3,_⟩:=h;exact⟨a,cap,h1,h2,by unfold maxLen at h3;omega⟩
theorem Sf.at{W:World}{a:Option Addr}{n cap:Nat}{l:List Fd}(h:Sf W (.slice a n cap) l){k:Nat}(hk:k<l.length) :
  ∃ b off,a=some ⟨b,off,none⟩/\b<W.heap.size/\W.cell? ⟨b,off+k*4,none⟩=some (.int .u32 (l[k].1:Int))/\W.cell? ⟨b,off+k*4+1,none⟩=some (.string l[k].2.1)/\W.cell? ⟨b,off+k*4+2,none⟩=some (.int .u8 (l[k].2.2.1:Int))/\W.cell? ⟨b,off+k*4+3,none⟩=some (.bool l[k].2.2.2):=by
 obtain⟨a',cap',e,h1,h2,h0,h4⟩:=h;simp only[Value.slice.injEq]at e;obtain⟨rfl,_,_⟩:=e;obtain⟨b,off,rfl,h5,h6⟩:=h4 (by omega);obtain⟨c0,c1,c2,c3⟩:=sK hk;refine⟨b,off,rfl,h5,h6 _ _ c0,?_,?_,?_⟩
 ·rw[jeD]
  exact h6 _ _ c1
 ·rw[jeD]
  exact h6 _ _ c2
 ·rw[jeD]
  exact h6 _ _ c3
theorem Sf.take{W:World}{a:Option Addr}{n cap:Nat}{l:List Fd}(h:Sf W (.slice a n cap) l){k:Nat}(hk:k<=l.length):Sf W (.slice a k cap) (l.take k):=by
 obtain⟨a',c,h1,h2,h3,h4,h5⟩:=h;simp only[Value.slice.injEq]at h1;obtain⟨rfl,_,rfl⟩:=h1;have hl:(l.take k).length=k:=by rw[jdC];omega
 refine⟨_,cap,by rw[hl],by omega,h3,h4,fun h0=>?_⟩;obtain⟨b',off',h6,h7,h8⟩:=h5 (by omega);refine⟨b',off',h6,h7,fun j x hj=>h8 j x ?_⟩;rw[Hb,List.getElem?_take]at hj;split at hj
 ·exact hj
 ·cases hj
def fD(W:World)(B:Nat)(v:Value)(l:List Fd):Prop:=W.ownsRow B 81 4 v l.length (fx l)
theorem fD.nil(W:World)(B:Nat):fD W B (.slice none 0 0) []:=jeo _ _ _ _
theorem fD.kept{w w':World}{B:Nat}{v:Value}{l:List Fd}(h:fD w B v l)(hb:Below w.heap.size w w'):fD w' B v l:=bL h hb
theorem fD.low{W:World}{B B':Nat}{v:Value}{l:List Fd}(h:fD W B' v l)(hb:B<=B'):fD W B v l:=be h hb
theorem fD.sf{W:World}{B:Nat}{v:Value}{l:List Fd}(h:fD W B v l):Sf W v l:=by
 rcases h with ⟨h0,⟨rfl,h1⟩ | ⟨g,cap,cur,rfl,h2,h3,h4,h5,h6,h7⟩⟩
 ·refine⟨none,0,by rw[h1],by omega,by unfold maxLen;omega,fun _=>rfl,fun h=>by omega⟩
 ·refine⟨_,cap,rfl,h4,h5,fun h=>by(cases h),fun _=>⟨g,0,rfl,(Array.getElem?_eq_some_iff.1 h3).1,fun j x hj=>?_⟩⟩
  rw[jdZ];simp only[World.cell?,h3];rw[← h7]at hj;have aB:=(List.getElem?_eq_some_iff.1 hj).1;rw[jdC]at aB;rw[List.getElem?_take_of_lt (by omega)]at hj;simpa using hj
theorem wJ(w:World)(l:List Fd)(hl:l.length<=maxLen):fD (w.alloc (.cells (fx l).toArray 81)) w.heap.size (.slice (some ⟨w.heap.size,0,none⟩) l.length l.length) l:=by
 have:=jeG (e:=81) (size:=4) w (fx l).toArray l.length (base:=w.heap.size) (jdw _) hl (by simp[jP]);exact this
theorem jaz:(Tryz.prog.info? 81).map (fun i=>(i.zero,i.size,i.bytes))=some (some (.agg #[.int .u32 0,.string ⟨#[]⟩,.int .u8 0,.bool false]),4,32):=by kernel_rfl
theorem AW(w:World)(f:Fd):fD (w.alloc (.cells #[.int .u32 (f.1:Int),.string f.2.1,.int .u8 (f.2.2.1:Int),.bool f.2.2.2] 81)) w.heap.size (.slice (some ⟨w.heap.size,0,none⟩) 1 1) [f]:=wJ w [f] (by unfold maxLen;simp)
theorem AX(s t:ByteArray):(s.toList==t.toList)=decide (s=t):=by
 rw[jeX];simp only[beq_iff_eq,jei];constructor
 ·intro h
  rw[ByteArray.toList_eq,ByteArray.toList_eq]at h;exact GL h
 ·intro h;rw[h]
def bO(S:World->Prop):Type:={x:World // S x}
def bO.w{S:World->Prop}(s:bO S):World:=s.val
theorem bO.ok{S:World->Prop}(s:bO S):S s.w:=s.property
def bO.mk{S:World->Prop}(x:World)(h:S x):bO S:=⟨x,h⟩
theorem cz{P:Program}{id:Nat}{Q:Exit->Act->World->Prop}{a:Act}{w:World}{l:List Oper}{S:World->Prop}(hm:P.follows .mixedOrders=true)(hB:Region.lexB .any l.toArray=true)(hS:S w.drew)
  (h:wpQuiet P l.toArray (fun w'=>∃ s:bO S,w'=s.w) (fun a'=>∀ w',(∃ s:bO S,w'=s.w)->Q .normal a' w') l a):(Code.region id l.toArray true).wp P Q a w :=
 wp_region_quiet (C:=fun w'=>∃ s:bO S,w'=s.w) hm hB ⟨bO.mk _ hS,rfl⟩ (by simpa using h)
end Go.Proofs.YtpljdjmpamjkhaaGreatDoor
