import Derived.Test.YtpljdjmpamjkhaaGreatDoorWac
import Derived.Test.YtpljdjmpamjkhaaGreatDoorWae
set_option linter.unusedVariables false
set_option linter.unusedSimpArgs false
set_option maxRecDepth 100000
set_option maxHeartbeats 4000000
namespace Go.Proofs.YtpljdjmpamjkhaaGreatDoor
open Go.RowKit Go.Lib
def tV(f:Fd):List Value:=[.int .u32 (f.1:Int),.string f.2.1,.int .u8 (f.2.2.1:Int),.bool f.2.2.2]
def nM(f:Fd):Value:=.agg #[.int .u32 (f.1:Int),.string f.2.1,.int .u8 (f.2.2.1:Int),.bool f.2.2.2]
def dE(l:List Fd):List Value:=l.flatMap tV
theorem oZ(a b:List Fd):dE (a++b)=dE a++dE b:=ZS
theorem jp(c:Fd)(l:List Fd):dE (c::l)=tV c++dE l:=jaa
theorem eM:∀ l:List Fd,(dE l).length=l.length*4
 | []=>rfl
 | c::t=>by
  rw[jp,YC,eM t,YI];simp[tV]
  omega
theorem qw:∀{l:List Fd} {j:Nat} (h:j<l.length),(dE l)[j*4]?=some (.int .u32 (l[j].1:Int))/\(dE l)[j*4+1]?=some (.string l[j].2.1)/\(dE l)[j*4+2]?=some (.int .u8 (l[j].2.2.1:Int))/\(dE l)[j*4+3]?=some (.bool l[j].2.2.2)
 | c::t,0,h=>by simp[jp,tV]
 | c::t,j+1,h=>by
  have ih:=qw (l:=t) (j:=j) (by simpa using h);rw[jp]
  have e:∀ k,(tV c++dE t)[(j+1)*4+k]?=(dE t)[j*4+k]?:=fun k=>by
   rw[List.getElem?_append_right (by simp[tV];omega)];simp only[tV,YI,Zc];congr 1
   omega
  have e0:=e 0;simp only[ZL]at e0;rw[e0,e 1,e 2,e 3];simpa using ih
theorem yk(f:Fd):∀ u∈tV f,u.oneCell'=true:=by
 intro u hu;unfold tV at hu;simp only[YQ,jaw,or_false]at hu;rcases hu with rfl | rfl | rfl | rfl<;>rfl
theorem nc(l:List Fd):∀ u∈dE l,u.oneCell'=true:=by
 intro u hu;obtain⟨f,_,h⟩:=List.mem_flatMap.1 hu;exact yk f u h
theorem Dx(l:List Fd)(k:Nat):dE (l.take k)=(dE l).take (k*4):=by
 induction l generalizing k with
 | nil=>simp[dE]
 | cons f t ih =>
  cases k with
  | zero=>simp[dE]
  | succ k =>
   have hl:(tV f).length=4:=rfl;rw[jax,jp,jp,ih,List.take_append,hl,Zo (l:=tV f) (by rw[hl];omega)];congr 2
   omega
def Sf(W:World)(v:Value)(l:List Fd):Prop :=
 ∃ a cap,v=.slice a l.length cap/\l.length<=cap/\cap<=maxLen/\(a=none->cap=0)/\(0<l.length->∃ b off,a=some ⟨b,off,none⟩/\b<W.heap.size/\∀ j x,(dE l)[j]?=some x->W.cell? ⟨b,off+j,none⟩=some x)
theorem Sf.kept{W W':World}{v:Value}{l:List Fd}(h:Sf W v l)(hb:Below W.heap.size W W'):Sf W' v l:=by
 obtain⟨a,cap,h1,h2,h3,h0,h4⟩:=h;refine⟨a,cap,h1,h2,h3,h0,fun h0=>?_⟩;obtain⟨b,off,h5,h6,h7⟩:=h4 h0;exact⟨b,off,h5,Za h6 hb.size,fun j x hj=>(hb.cell (p:=⟨b,off+j,none⟩) h6).trans (h7 j x hj)⟩
theorem Sf.nil(W:World):Sf W (.slice none 0 0) []:=⟨none,0,rfl,YA _,by unfold maxLen;omega,fun _=>rfl,fun h=>by simp at h⟩
theorem Sf.form{W:World}{v:Value}{l:List Fd}(h:Sf W v l):∃ a cap,v=.slice a l.length cap/\l.length<=cap/\cap<=9223372036854775807:=by
 obtain⟨a,cap,h1,h2,h3,_⟩:=h;exact⟨a,cap,h1,h2,by unfold maxLen at h3;omega⟩
theorem Sf.at{W:World}{a:Option Addr}{n cap:Nat}{l:List Fd}(h:Sf W (.slice a n cap) l){k:Nat}(hk:k<l.length) :
  ∃ b off,a=some ⟨b,off,none⟩/\b<W.heap.size/\W.cell? ⟨b,off+k*4,none⟩=some (.int .u32 (l[k].1:Int))/\W.cell? ⟨b,off+k*4+1,none⟩=some (.string l[k].2.1)/\W.cell? ⟨b,off+k*4+2,none⟩=some (.int .u8 (l[k].2.2.1:Int))/\W.cell? ⟨b,off+k*4+3,none⟩=some (.bool l[k].2.2.2):=by
 obtain⟨a',cap',e,h1,h2,h0,h4⟩:=h;simp only[Value.slice.injEq]at e;obtain⟨rfl,_,_⟩:=e;obtain⟨b,off,rfl,h5,h6⟩:=h4 (by omega);obtain⟨c0,c1,c2,c3⟩:=qw hk;refine⟨b,off,rfl,h5,h6 _ _ c0,?_,?_,?_⟩
 ·rw[ZR]
  exact h6 _ _ c1
 ·rw[ZR]
  exact h6 _ _ c2
 ·rw[ZR]
  exact h6 _ _ c3
theorem Sf.take{W:World}{a:Option Addr}{n cap:Nat}{l:List Fd}(h:Sf W (.slice a n cap) l){k:Nat}(hk:k<=l.length):Sf W (.slice a k cap) (l.take k):=by
 obtain⟨a',c,h1,h2,h3,h4,h5⟩:=h;simp only[Value.slice.injEq]at h1;obtain⟨rfl,_,rfl⟩:=h1;have hl:(l.take k).length=k:=by rw[YH];omega
 refine⟨_,cap,by rw[hl],by omega,h3,h4,fun h0=>?_⟩;obtain⟨b',off',h6,h7,h8⟩:=h5 (by omega);refine⟨b',off',h6,h7,fun j x hj=>h8 j x ?_⟩;rw[Dx,List.getElem?_take]at hj;split at hj
 ·exact hj
 ·cases hj
def de(W:World)(B:Nat)(v:Value)(l:List Fd):Prop:=W.ownsRow B 81 4 v l.length (dE l)
theorem de.nil(W:World)(B:Nat):de W B (.slice none 0 0) []:=Zx _ _ _ _
theorem de.kept{w w':World}{B:Nat}{v:Value}{l:List Fd}(h:de w B v l)(hb:Below w.heap.size w w'):de w' B v l:=bP h hb
theorem de.low{W:World}{B B':Nat}{v:Value}{l:List Fd}(h:de W B' v l)(hb:B<=B'):de W B v l:=bE h hb
theorem de.sf{W:World}{B:Nat}{v:Value}{l:List Fd}(h:de W B v l):Sf W v l:=by
 rcases h with ⟨h0,⟨rfl,h1⟩ | ⟨g,cap,cur,rfl,h2,h3,h4,h5,h6,h7⟩⟩
 ·refine⟨none,0,by rw[h1],by omega,by unfold maxLen;omega,fun _=>rfl,fun h=>by omega⟩
 ·refine⟨_,cap,rfl,h4,h5,fun h=>by(cases h),fun _=>⟨g,0,rfl,(Array.getElem?_eq_some_iff.1 h3).1,fun j x hj=>?_⟩⟩
  rw[YY];simp only[World.cell?,h3];rw[← h7]at hj;have ar:=(List.getElem?_eq_some_iff.1 hj).1;rw[YH]at ar;rw[List.getElem?_take_of_lt (by omega)]at hj;simpa using hj
theorem nN(w:World)(l:List Fd)(hl:l.length<=maxLen):de (w.alloc (.cells (dE l).toArray 81)) w.heap.size (.slice (some ⟨w.heap.size,0,none⟩) l.length l.length) l:=by
 have:=jaf (e:=81) (size:=4) w (dE l).toArray l.length (base:=w.heap.size) (YA _) hl (by simp[eM]);exact this
theorem MX:(Tryz.prog.info? 81).map (fun i=>(i.zero,i.size,i.bytes))=some (some (.agg #[.int .u32 0,.string ⟨#[]⟩,.int .u8 0,.bool false]),4,32):=by kernel_rfl
theorem qx{w:World}{ops:Array Oper}{rest:List Oper}{o:Oper}{a:Act}{Q:Exit->Act->World->Prop}(dO:o.guard=none)(s x:Operand)
  (ho:o.op=.call { callee:=.builtin .append,args:=#[s,x],argTypes:=#[23,23] })
  (base:Nat) (v vx:Value) (l0 l:List Fd) (hs:a.eval s=v) (aw:de w base v l0) (hx:a.eval x=vx) (et:Sf w vx l)
  (hbytes:l0.length+l.length<=100000) (aD:base<=w.heap.size)
  (h:∀ v' w',de w' base v' (l0++l)->Below base w w'->wpList Tryz.prog ops Q rest (a.put o.dst v') w') :
  wpList Tryz.prog ops Q (o::rest) a w:=by
 obtain⟨i0,hi,bN,hz1',bh⟩:=YW MX;unfold de at *;obtain⟨ad,cap,rfl,h1,h2,h3,h4⟩:=et;cases ad with
 | none =>
  have hc:=h3 rfl;subst hc;have hl:l=[]:=YU (by omega);subst hl;refine wpList_plain dO fun K hK=>?_
  have hr:=jae (P:=Tryz.prog) (w:=w) base 23 o.type 81 i0 4 Tryz.underlying23 hi v l0.length (dE l0) aw;unfold Oper.wp execOp;simp only[ho,resolve,invoke,builtin,Sem.run_bind,Sem.run_pure,Result.andThen_ok,ZP,Zh,Zs,hs,hx,hr,Zc];refine hK _ _ (h v w ?_ (Yz _ _));rw[YZ];exact aw
 | some ad =>
  refine ZI (w:=w) dO s x 23 ho base 81 i0 (.agg #[.int .u32 0,.string ⟨#[]⟩,.int .u8 0,.bool false]) 4 32 Tryz.underlying23 hi bN hz1' bh rfl (by decide) v l0.length (dE l0) hs aw ad l.length cap (dE l) hx (by rw[eM]) ?_ (nc _) (by unfold maxLen;omega) (by omega) aD ?_
  ·intro j u hu
   have hj:j<l.length*4:=by
    have:=(List.getElem?_eq_some_iff.1 hu).1;rwa[eM]at this
   obtain⟨b,off,h5,_,h6⟩:=h4 (by omega);cases h5
   rw[kq];exact h6 j u hu
  ·intro v' w' o1 g1 _ _
   refine h v' w' ?_ ((Yz base w).grown g1 aD (fun k hk=>(aw.lt k hk).1));rw[oZ,YC];exact o1
theorem yl(w:World)(f:Fd):de (w.alloc (.cells #[.int .u32 (f.1:Int),.string f.2.1,.int .u8 (f.2.2.1:Int),.bool f.2.2.2] 81)) w.heap.size (.slice (some ⟨w.heap.size,0,none⟩) 1 1) [f]:=nN w [f] (by unfold maxLen;simp)
theorem tW(s t:ByteArray):(s.toList==t.toList)=decide (s=t):=by
 rw[jaj];simp only[beq_iff_eq,Zu];constructor
 ·intro h
  rw[ByteArray.toList_eq,ByteArray.toList_eq]at h;exact Dh h
 ·intro h;rw[h]
def aW(S:World->Prop):Type:={x:World // S x}
def aW.w{S:World->Prop}(s:aW S):World:=s.val
theorem aW.ok{S:World->Prop}(s:aW S):S s.w:=s.property
def aW.mk{S:World->Prop}(x:World)(h:S x):aW S:=⟨x,h⟩
theorem bD{P:Program}{id:Nat}{Q:Exit->Act->World->Prop}{a:Act}{w:World}{l:List Oper}{S:World->Prop}(hm:P.follows .mixedOrders=true)(hB:Region.lexB .any l.toArray=true)(hS:S w.drew)
  (h:wpQuiet P l.toArray (fun w'=>∃ s:aW S,w'=s.w) (fun a'=>∀ w',(∃ s:aW S,w'=s.w)->Q .normal a' w') l a):(Code.region id l.toArray true).wp P Q a w :=
 wp_region_quiet (C:=fun w'=>∃ s:aW S,w'=s.w) hm hB ⟨aW.mk _ hS,rfl⟩ (by simpa using h)
theorem gN(w:World)(x y z u:Value)(t:Nat):(w.alloc (.cells #[x,y,z,u] t)).cell? ⟨w.heap.size,0,none⟩=some x/\(w.alloc (.cells #[x,y,z,u] t)).cell? ⟨w.heap.size,1,none⟩=some y/\(w.alloc (.cells #[x,y,z,u] t)).cell? ⟨w.heap.size,2,none⟩=some z/\(w.alloc (.cells #[x,y,z,u] t)).cell? ⟨w.heap.size,3,none⟩=some u:=by
 have h:=Zb w (.cells #[x,y,z,u] t);exact⟨by rw[an h];rfl,by rw[an h];rfl,by rw[an h];rfl,by rw[an h];rfl⟩
theorem aR(w:World)(x y:Value)(t:Nat):(w.alloc (.cells #[x,y] t)).cell? ⟨w.heap.size,0,none⟩=some x/\(w.alloc (.cells #[x,y] t)).cell? ⟨w.heap.size,1,none⟩=some y:=by
 have h:=Zb w (.cells #[x,y] t);exact⟨by rw[an h];rfl,by rw[an h];rfl⟩
theorem tX{W:World}{v:Value}{l:List Fd}(h:Sf W v l)(n:Nat):Sf (W.drewN n) v l:=h.kept (ak (Yz _ _) n)
theorem qy{w:World}{v:Value}{l:List Fd}(hs:Sf w v l)(si id:Nat):Calls Tryz.prog 193 #[.agg #[.int .u32 (si:Int),v],.int .u32 (id:Int)] w fun e w'=>e=.returned (.tuple #[.int .i64 (((gF l id).getD 0:Nat):Int),.bool (gF l id).isSome])/\Below w.heap.size w w':=by
 obtain⟨a,cap,rfl,aV,bw⟩:=hs.form;have bV:=ae (aj w (.cells #[.int .u32 (si:Int),.slice a l.length cap] 25));have HS:=ae (hs.kept (aj w (.cells #[.int .u32 (si:Int),.slice a l.length cap] 25)));have HP:jaH (gF l id=jc id 0 (l.drop 0)):=ae rfl;generalize gF l id=P at *;clear hs;generalize hW:w.alloc (.cells #[.int .u32 (si:Int),.slice a l.length cap] 25)=W at *;have hW':=hW;obtain⟨c0,c1⟩:=aR w (.int .u32 (si:Int)) (.slice a l.length cap) 25;rw[hW]at c0 c1;go_enter Tryz.func193,Tryz.ntmps193
 go_wp2_with fail;try rw[hW]
 clear hW hW' c0 c1;go_loopw [11] (fun i wr=>∃ k:Nat,k<=l.length/\i=.int .i64 (k:Int)/\P=jc id k (l.drop k)/\Below W.heap.size W wr) (fun i _=>l.length-(intOf i).toNat)
 case atStart=>exact⟨0,by omega,rfl,HP.o,Yz _ _⟩
 case round =>
  obtain⟨k,hk,rfl,kJ,ao⟩:=hrel;have HF:=ae kJ;have HB:=ae ao;have bM:=ao.size;clear kJ ao HP;by_cases ar:k<l.length
  ·obtain⟨b,off,rfl,hb,x0,x1,x2,x3⟩:=(HS.o.kept HB.o).at ar
   have HT:=ae (HF.o.trans (zt ar));have hlt':(k:Int)<(l.length:Int):=(by omega);generalize l[k]=f at *;obtain⟨f0,f1,f2,f3⟩:=f;simp only at *;have aK:=ae (HB.o.trans ((aj wr (.cells #[.int .u32 (f0:Int),.string f1,.int .u8 (f2:Int),.bool f3] 81)).mono bM));by_cases hq:f0=id
   ·rw[Yy hq]at HT
    have hq':((f0:Int)==(id:Int))=true:=by rw[hq];simp
    subst hq;go_wp2_with fail;go_ret2
    rw[HT.o];exact⟨rfl,ag bV.o aK.o⟩
   ·rw[Yx hq]at HT
    have hq':((f0:Int)==(id:Int))=false:=YN.2 (by omega);clear hq;go_wp2_with fail;go_roundw
    case rel=>exact⟨k+1,by omega,by go_num,HT.o,aK.o⟩
    case measure=>simp[intOf];omega
  ·obtain rfl:k=l.length:=by omega
   have eO:¬ ((l.length:Nat):Int)<(l.length:Int):=(by omega);have HT:=ae (HF.o.trans (CD l id));clear HF;go_wp2_with fail;go_ret2
   rw[HT.o];exact⟨rfl,ag bV.o HB.o⟩
theorem Dy{w:World}{v rv:Value}{l:List Fd}{r:List Cl}(hs:Sf w v l)(hr:Sc w rv r)(si:Nat):Calls Tryz.prog 43 #[.agg #[.int .u32 (si:Int),v],rv] w fun e w'=>e=.returned (.int .i64 (gW l r:Int))/\Below w.heap.size w w':=by
 obtain⟨a,cap,rfl,aV,bw⟩:=hs.form;obtain⟨ra,rcap,rfl,Qq,Qr⟩:=hr.form;have hrcm':rcap<=9223372036854775807:=by unfold maxLen at Qr;omega
 have cO:=aj w (.cells #[.int .u32 (si:Int),.slice a l.length cap] 25);have bV:=ae cO;have HS:=ae (hs.kept cO);have HR:=ae (hr.kept cO);obtain⟨c0,c1⟩:=aR w (.int .u32 (si:Int)) (.slice a l.length cap) 25;have hz:w.heap.size<(w.alloc (.cells #[.int .u32 (si:Int),.slice a l.length cap] 25)).heap.size:=by rw[YB];omega
 clear hs hr cO Qr;generalize hW:w.alloc (.cells #[.int .u32 (si:Int),.slice a l.length cap] 25)=W at *;by_cases fb:r.length≠l.length
 ·have HM:jaH (gW l r=1):=ae (Yy fb)
  have hne':((r.length:Int) != (l.length:Int))=true:=by simp only[bne_iff_ne];omega
  clear fb;go_enter Tryz.func43,Tryz.ntmps43
  go_wp2_with fail;go_ret
  rw[HM.o];refine⟨rfl,?_⟩;first | exact bV.o | (rw[hW];exact bV.o)
 ·have pS:r.length=l.length:=by omega
  have HM:jaH (gW l r=ot (l.drop 0) (r.drop 0)):=ae (Yx fb);have Kz:=ae pS;rw[pS]at Qq HR ⊢;generalize gW l r=R at *;clear fb pS;go_enter Tryz.func43,Tryz.ntmps43
  go_wp2_with fail;try rw[hW]
  clear hW;go_loopw [5] (fun i wr=>∃ k:Nat,k<=l.length/\i=.int .i64 (k:Int)/\R=ot (l.drop k) (r.drop k)/\Below W.heap.size W wr) (fun i _=>l.length-(intOf i).toNat)
  case atStart=>exact⟨0,by omega,rfl,HM.o,Yz _ _⟩
  case round =>
   obtain⟨k,hk,rfl,kJ,ao⟩:=hrel;have HF:=ae kJ;have HB:=ae ao;have bM:=ao.size;have d1:=(ao.cell (p:=⟨w.heap.size,1,none⟩) hz).trans c1;clear kJ ao HM;by_cases ar:k<l.length
   ·obtain⟨b,off,rfl,hb,x0,x1,x2,x3⟩:=(HS.o.kept HB.o).at ar
    have KG:k<r.length:=by have:=Kz.o;omega
    obtain⟨rb,roff,rfl,hrb,y0,y1,y2⟩:=(HR.o.kept HB.o).at KG;have HT:=ae (HF.o.trans (wf ar KG));have hlt':(k:Int)<(l.length:Int):=(by omega);have WO:(0:Int)<=(k:Int):=(by omega);have HQ:jaH (oq l[k] r[k]=if r[k].1=0 then (if l[k].2.2.2=true then 82 else 0) else if r[k].1≠l[k].2.2.1 then 10 else if 64<r[k].2.2.length then 5 else 0):=ae rfl;generalize oq l[k] r[k]=Q at *;rw[fD]at y2;have hS:=bx r[k].2.2;generalize ai r[k].2.2=S at *;generalize r[k].2.2.length=cl at *;generalize r[k].2.1=cn at *;generalize r[k].1=ck at *;generalize l[k].2.2.1=f2 at *;generalize l[k].2.2.2=f3 at *;have se:=aj wr (.cells #[.int .u8 (ck:Int),.int .i64 cn,.string S] 52);have aK:=ae (HB.o.trans (se.mono bM));have e1:=(se.cell (p:=⟨w.heap.size,1,none⟩) (show w.heap.size<_ by omega)).trans d1;have e2:=(se.cell (p:=⟨b,off+k*4+2,none⟩) hb).trans x2;have e3:=(se.cell (p:=⟨b,off+k*4+3,none⟩) hb).trans x3;have Ro:w.heap.size<wr.heap.size:=(by omega);clear se;by_cases q0:ck=0
    ·have q0':((ck:Int)==0)=true:=by rw[q0];rfl
     rw[Yy q0]at HQ;clear q0;cases f3
     ·rw[Yx (by simp)]at HQ
      rw[Yy HQ.o]at HT;go_wp2_with fail;go_roundw
      case rel=>exact⟨k+1,by omega,by go_num,HT.o,aK.o⟩
      case measure=>simp[intOf];omega
     ·rw[Yy rfl]at HQ
      rw[HQ.o,Yx (by omega)]at HT;go_wp2_with fail;go_ret
      rw[HT.o];exact⟨rfl,ag bV.o aK.o⟩
    ·have q0':((ck:Int)==0)=false:=YN.2 (by omega)
     rw[Yx q0]at HQ;clear q0;by_cases q1:ck=f2
     ·rw[Yx (by simpa using q1)]at HQ
      have q1':((ck:Int) != (f2:Int))=false:=by simp[q1]
      clear q1;by_cases q2:64<cl
      ·have q2':(S.size:Int) > 64:=by omega
       rw[Yy q2]at HQ;rw[HQ.o,Yx (by omega)]at HT;clear q2;go_wp2_with fail;go_quiet (fail)
       go_wp2_with fail;go_ret
       rw[HT.o];exact⟨rfl,ak (ag bV.o aK.o) _⟩
      ·have q2':¬ (S.size:Int) > 64:=by omega
       rw[Yx q2]at HQ;rw[Yy HQ.o]at HT;clear q2;go_wp2_with fail;go_quiet (fail)
       go_wp2_with fail;go_roundw
       case rel=>exact⟨k+1,by omega,by go_num,HT.o,ak aK.o _⟩
       case measure=>simp[intOf];omega
     ·rw[Yy q1]at HQ
      have q1':((ck:Int) != (f2:Int))=true:=by simp only[bne_iff_ne];omega
      rw[HQ.o,Yx (by omega)]at HT;clear q1;go_wp2_with fail;go_quiet (fail)
      go_wp2_with fail;go_ret
      rw[HT.o];exact⟨rfl,ak (ag bV.o aK.o) _⟩
   ·obtain rfl:k=l.length:=by omega
    have eO:¬ ((l.length:Nat):Int)<(l.length:Int):=(by omega);have HT:=ae (HF.o.trans (zu l _));clear HF;go_wp2_with fail;go_ret
    rw[HT.o];exact⟨rfl,ag bV.o HB.o⟩
def Jc(w:World)(l:List Fd)(e:Ending)(w':World):Prop:=(∃ g:Bool,e=.returned (.bool g)/\(g=false->l.length<=100/\szs l<5000))/\Below w.heap.size w w'
theorem Jd{w:World}{v:Value}{l:List Fd}(hs:Sf w v l)(id:Nat):Calls Tryz.prog 10 #[.agg #[.int .u32 (id:Int),v]] w (Jc w l):=by
 obtain⟨a,cap,rfl,aV,bw⟩:=hs.form;have bV:=ae (aj w (.cells #[.int .u32 (id:Int),.slice a l.length cap] 25));have HS:=ae (hs.kept (aj w (.cells #[.int .u32 (id:Int),.slice a l.length cap] 25)));obtain⟨c0,c1⟩:=aR w (.int .u32 (id:Int)) (.slice a l.length cap) 25;clear hs;generalize hW:w.alloc (.cells #[.int .u32 (id:Int),.slice a l.length cap] 25)=W at *;go_enter Tryz.func10,Tryz.ntmps10
 go_wp2_with fail;try rw[hW]
 clear hW;go_loopw [3,4] (fun n i wr=>∃ k s:Nat,wr=W/\k<=l.length/\k<=100/\i=.int .i64 (k:Int)/\n=.int .i64 (s:Int)/\s<10000/\(s<5000->s=szs (l.take k))) (fun _ i _=>l.length-(intOf i).toNat)
 case atStart=>exact⟨0,0,rfl,by omega,by omega,rfl,rfl,by omega,fun _=>by simp[szs]⟩
 case round =>
  obtain⟨k,s,rfl,hk,hk100,rfl,rfl,da,cP⟩:=hrel;have eP:=ae cP;clear cP;by_cases ar:k<l.length
  ·have hlt':(k:Int)<(l.length:Int):=by omega
   by_cases sP:(k:Int)<100
   ·by_cases lD:(s:Int)<5000
    ·obtain⟨b,off,rfl,hb,x0,x1,x2,x3⟩:=HS.o.at ar
     have uX:=ae (ve ar);have HSE:=ae (eP.o (by omega));generalize l[k].2.1=nm at *;have TR:∃ q:Nat,min (nm.size:Int) 5000=(q:Int)/\q<=5000/\(q<5000->q=nm.size):=⟨min nm.size 5000,by omega,by omega,by omega⟩;obtain h | h | h:(nm.size:Int)<5000∨(nm.size:Int)=5000∨(5000:Int)<(nm.size:Int):=by omega
     ·have h2:¬ (5000:Int)<(nm.size:Int):=by omega
      have h3:((nm.size:Int)==5000)=false:=YN.2 (by omega);have h4:(nm.size:Int)<=5000:=(by omega);have h5:¬ (5000:Int)<=(nm.size:Int):=(by omega);clear TR;go_wp2_with fail;go_roundw
      case rel=>exact⟨k+1,s+nm.size,trivial,by omega,by omega,by go_num,by go_num,by omega,fun _=>by rw[uX.o,HSE.o]⟩
      case measure=>simp[intOf];omega
     ·clear TR
      go_wp2_with fail;go_roundw
      case rel=>exact⟨k+1,s+5000,trivial,by omega,by omega,by go_num,by go_num,by omega,fun h=>by omega⟩
      case measure=>simp[intOf];omega
     ·have h2:¬ (nm.size:Int)<5000:=by omega
      have h3:((nm.size:Int)==5000)=false:=YN.2 (by omega);have h4:(5000:Int)<=(nm.size:Int):=(by omega);have h5:¬ (nm.size:Int)<=5000:=(by omega);clear TR;go_wp2_with fail;go_roundw
      case rel=>exact⟨k+1,s+5000,trivial,by omega,by omega,by go_num,by go_num,by omega,fun h=>by omega⟩
      case measure=>simp[intOf];omega
    ·by_cases hl:(l.length:Int) > 100
     ·go_wp2_with fail
      go_ret
      exact⟨⟨true,rfl,fun h=>by cases h⟩,bV.o⟩
     ·have uM:(s:Int)>=5000:=by omega
      go_wp2_with fail;go_ret
      exact⟨⟨true,rfl,fun h=>by cases h⟩,bV.o⟩
   ·have hl:(l.length:Int) > 100:=by omega
    go_wp2_with fail;go_ret
    exact⟨⟨true,rfl,fun h=>by cases h⟩,bV.o⟩
  ·obtain rfl:k=l.length:=by omega
   have eO:¬ ((l.length:Nat):Int)<(l.length:Int):=(by omega);have hl:¬ (l.length:Int) > 100:=(by omega);by_cases uM:(s:Int)>=5000
   ·go_wp2_with fail
    go_ret
    exact⟨⟨true,rfl,fun h=>by cases h⟩,bV.o⟩
   ·have h2:=eP.o
    rw[YK]at h2;have H2:=ae (h2 (by omega));clear h2;go_wp2_with fail;go_ret
    exact⟨⟨false,rfl,fun h=>⟨by omega,by rw[← H2.o];omega⟩⟩,bV.o⟩
theorem rJ(c:Nat)(w:World):Calls Tryz.prog 224 #[.int .i32 (c:Int)] w fun e w'=>e=.returned (.bool (dz c))/\w'=w:=by
 by_cases h1:48<=(c:Int)
 ·by_cases h2:(c:Int)<=57
  ·have HN:jaH (dz c=true):=ae (YT (by omega))
   go_enter Tryz.func224,Tryz.ntmps224
   go_wp2;go_ret
   rw[HN.o];exact⟨rfl,rfl⟩
  ·have HN:jaH (dz c=false):=ae (YO (by omega))
   go_enter Tryz.func224,Tryz.ntmps224
   go_wp2;go_ret
   rw[HN.o];exact⟨rfl,rfl⟩
 ·have HN:jaH (dz c=false):=ae (YO (by omega))
  go_enter Tryz.func224,Tryz.ntmps224
  go_wp2;go_ret
  rw[HN.o];exact⟨rfl,rfl⟩
theorem Ap(c:Nat)(w:World):Calls Tryz.prog 223 #[.int .i32 (c:Int)] w fun e w'=>e=.returned (.bool (fy c || dz c))/\w'=w:=by
 have HD:=ae (rJ c);have HL:jaH (fy c=(decide (97<=c/\c<=122) || decide (c=95) || decide (127<c))):=ae rfl;by_cases h1:97<=(c:Int)/\(c:Int)<=122
 ·obtain⟨h1,h2⟩:=h1
  have HN:jaH ((fy c || dz c)=true):=ae (by rw[HL.o,YT (show 97<=c/\c<=122 by omega)];rfl);rw[HN.o];go_enter Tryz.func223,Tryz.ntmps223
  go_wp2;go_ret
  exact⟨rfl,rfl⟩
 ·have hh:¬ (97<=c/\c<=122):=by omega
  have HB:jaH ((fy c || dz c)=(dz c || decide (c=95) || decide (127<c))):=ae (by
   rw[HL.o,YO hh];cases dz c<;>cases decide (c=95)<;>cases decide (127<c)<;>rfl)
  rw[HB.o];clear hh;generalize dz c=dg at *;have Qs:97<=(c:Int)/\¬ (c:Int)<=122∨¬ 97<=(c:Int):=by omega
  clear h1;rcases Qs with ⟨h1,h2⟩ | h1
  all_goals
   go_enter Tryz.func223,Tryz.ntmps223
   go_wp2_with fail;refine(HD.o _).mono ?_;rintro e w1 ⟨rfl,rfl⟩;cases dg
   ·by_cases h3:c=95
    ·have h3':((c:Int)==95)=true:=by simp;omega
     have HV:jaH ((false || decide (c=95) || decide (127<c))=true):=ae (by rw[YT h3];rfl);clear h3;go_wp2_with fail;go_ret
     rw[HV.o];exact⟨rfl,rfl⟩
    ·have h3':((c:Int)==95)=false:=by simp;omega
     have HV:jaH ((false || decide (c=95) || decide (127<c))=decide (127<(c:Int))):=ae (by
      rw[YO h3];by_cases h4:127<c
      ·rw[YT h4,YT (by omega)];rfl
      ·rw[YO h4,YO (by omega)];rfl)
     clear h3;go_wp2_with fail;go_ret
     rw[HV.o];exact⟨rfl,rfl⟩
   ·go_wp2_with fail
    go_ret
    exact⟨rfl,rfl⟩
theorem MY{u:List (Nat×Nat)}(h:∀ x∈u,1<=x.2){k:Nat}(hk:k<=u.length):dQ u k=0↔k=0:=by
 cases k with
 | zero=>simp
 | succ k =>
  cases u with
  | nil=>simp at hk
  | cons x t =>
   have:=h x (by simp);unfold dQ;simp
   omega
theorem Sy{l:List UInt8}{p k:Nat}(h:At l p k):p=0↔k=0:=by
 rw[h.2.2.1];exact MY (fun x hx=>(RH _ l (YA _) x hx).2) h.2.2.2
theorem Je{l:List UInt8}{p k:Nat}(h:At l p k)(hp:p<l.length):cW k ((V l).drop k)=(jM k (aF (l.drop p)).1 && cW (k+1) ((V l).drop (k+1))):=by
 have h1:=h.lt hp;rw[h1,mV,vY h1]
theorem Dz(k c:Nat):jM k c=((fy c || dz c) && !(decide (k=0) && dz c)):=by
 unfold jM;by_cases hk:k=0
 ·subst hk
  have h1:dz c=true->fy c=false:=by
   unfold dz fy;simp
   omega
  cases hd:dz c
  ·simp
  ·rw[h1 hd];simp
 ·have:0<k:=by omega
  simp[hk,this]
theorem vm(s:ByteArray)(w:World):Calls Tryz.prog 197 #[.string s] w fun e w'=>e=.returned (.bool (named s))/\Below w.heap.size w w':=by
 have hL:=bX s;by_cases h1:s.size=0
 ·have HN:jaH (named s=false):=ae (by unfold named;rw[YO (by omega)];rfl)
  rw[HN.o]
  have hs:s=⟨#[]⟩:=by
   apply Dh
   exact YU (hL.trans h1)
  subst hs;clear hL h1;go_enter Tryz.func197,Tryz.ntmps197
  go_wp2_with fail;go_ret
  exact⟨rfl,Yz _ _⟩
 ·have fb:(s.toList==([]:List UInt8))=false:=by
   cases h:(s.toList==([]:List UInt8))with
   | false=>rfl
   | true =>
    exfalso
    rw[beq_iff_eq,ByteArray.toList_eq]at h;have:=YE List.length h;have h3:s.size=0:=this;omega
  have vR:s.toList.isEmpty=false:=by
   cases h:s.toList with
   | nil=>rw[h]at fb;simp at fb
   | cons=>rfl
  by_cases h2:(s.size:Int) > 16
  ·have HN:jaH (named s=false):=ae (by unfold named;rw[YO (by omega)];rfl)
   rw[HN.o];clear h1;go_enter Tryz.func197,Tryz.ntmps197
   go_wp2_with fail;go_ret
   exact⟨rfl,Yz _ _⟩
  ·have HN:jaH (named s=(cV (lb s) && cW 0 (V (lb s)))):=ae (by unfold named;rw[YT (by omega)];rfl)
   rw[HN.o];have HC:=ae (qs s (by omega));clear HN h1;generalize cV (lb s)=cl at *;go_enter Tryz.func197,Tryz.ntmps197
   go_wp2_with fail;refine(HC.o _).mono ?_;rintro e w1 ⟨rfl,aA⟩;have aN:=ae aA;clear aA;cases cl
   ·go_wp2_with fail
    go_ret
    exact⟨rfl,aN.o⟩
   ·go_wp2_with fail
    go_loopw [3,4] (fun i r w'=>∃ p k:Nat,w'=w1.iter s p/\At (lb s) p k/\cW 0 (V (lb s))=cW k ((V (lb s)).drop k)) (fun _ _ w'=>s.size-w'.iterPos w1.heap.size)
    case atStart=>exact⟨0,0,rfl,At.zero _,rfl⟩
    case round =>
     obtain⟨p,k,rfl,kl,dO⟩:=hrel;by_cases hp:p<s.size
     ·have uU:∀ ty,(Instr.next (.pointer (some ⟨w1.heap.size,0,none⟩)) true ty).run Tryz.prog (w1.iter s p)=_:=fun ty=>run_next_any w1 s p ty hp
      rw[kB]at uU;have hw:=cJ _ (gT (l:=lb s) (p:=p) (by omega));have HN:=ae (kl.next (by omega));have HG:=ae (dO.trans (Je kl (by omega)));have hz:=Sy kl;clear kl dO;generalize (aF ((lb s).drop p))=u at *;obtain⟨c,wd⟩:=u;simp only at *;have HS:=ae (Dz k c);have HO:=ae (Ap c);have HD:=ae (rJ c);have HW:=ae hw;clear hw;cases hlet:(fy c || dz c)with
      | false =>
       rw[hlet]at HO HS;clear hz;go_wp2_with fail;refine(HO.o _).mono ?_;rintro e w2 ⟨rfl,rfl⟩;go_wp2_with fail;go_ret
       refine⟨?_,aN.o.trans ((dt _ _ _).mono aN.o.size)⟩;rw[Bool.true_and,HG.o,HS.o];rfl
      | true =>
       rw[hlet]at HO HS;by_cases hp0:p=0
       ·obtain rfl:k=0:=hz.1 hp0
        subst hp0;clear hz;cases hdg:dz c with
        | false =>
         rw[hdg]at HD HS;go_wp2_with fail;refine(HO.o _).mono ?_;rintro e w2 ⟨rfl,rfl⟩;go_wp2_with fail;refine(HD.o _).mono ?_;rintro e w2 ⟨rfl,rfl⟩;go_wp2_with fail;go_roundw
         case rel=>exact⟨_,1,rfl,by simpa using HN.o,by rw[HG.o,HS.o];rfl⟩
         case measure=>have:=HW.o;simp at this ⊢;omega
        | true =>
         rw[hdg]at HD HS;go_wp2_with fail;refine(HO.o _).mono ?_;rintro e w2 ⟨rfl,rfl⟩;go_wp2_with fail;refine(HD.o _).mono ?_;rintro e w2 ⟨rfl,rfl⟩;go_wp2_with fail;go_ret
         refine⟨?_,aN.o.trans ((dt _ _ _).mono aN.o.size)⟩;rw[Bool.true_and,HG.o,HS.o];rfl
       ·have uK:¬ k=0:=fun h=>hp0 (hz.2 h)
        have hpb:((p:Int)==0)=false:=by simp[hp0]
        rw[YO uK]at HS;clear hz uK hp0;go_wp2_with fail;refine(HO.o _).mono ?_;rintro e w2 ⟨rfl,rfl⟩;go_wp2_with fail;go_roundw
        case rel=>exact⟨_,k+1,rfl,HN.o,by rw[HG.o,HS.o];rfl⟩
        case measure=>have:=HW.o;simp at this ⊢;omega
     ·have uU:∀ ty,(Instr.next (.pointer (some ⟨w1.heap.size,0,none⟩)) true ty).run Tryz.prog (w1.iter s p)=_:=fun ty=>run_next_end w1 s p ty hp
      have HE:jaH (k=(V (lb s)).length/\p=(lb s).length):=kl.end (by omega);clear kl;have HG:=ae dO;clear dO;go_wp2_with fail;go_ret
      refine⟨?_,aN.o.trans ((dt _ _ _).mono aN.o.size)⟩;rw[Bool.true_and,HG.o,HE.o.1,ZO];rfl
theorem Aq{v:Value}{k n:Int}{s:ByteArray}(h:Val v k n s)(w:World):Calls Tryz.prog 76 #[v] w fun e w'=>e=.returned (.agg #[.int .u8 k,.int .i64 n,.string s])/\Below w.heap.size w w':=by
 have t1:=xI;have t2:=CF;have t3:=xJ;have t4:=CG;have t5:=CI;have t6:=xK;have t7:=CJ;have t8:=CK;have t9:=CL;rcases h with ⟨rfl,rfl,rfl,rfl⟩ | ⟨rfl,rfl,rfl⟩ | ⟨b,rfl,rfl,rfl,rfl⟩ | ⟨rfl,rfl,rfl⟩
 ·go_enter Tryz.func76,Tryz.ntmps76
  go_wp2;exact bodyPost_ret (v:=.agg #[.int .u8 0,.int .i64 0,.string ⟨#[]⟩]) (by simp[results,Tryz.results76,go_sem]) rfl ⟨rfl,(Yz _ _).alloc (YA _) _⟩
 ·go_enter Tryz.func76,Tryz.ntmps76
  go_wp2;exact bodyPost_ret (v:=.agg #[.int .u8 1,.int .i64 n,.string ⟨#[]⟩]) (by simp[results,Tryz.results76,go_sem]) rfl ⟨rfl,(Yz _ _).alloc (YA _) _⟩
 ·cases b
  ·go_enter Tryz.func76,Tryz.ntmps76
   go_wp2;exact bodyPost_ret (v:=.agg #[.int .u8 2,.int .i64 0,.string ⟨#[]⟩]) (by simp[results,Tryz.results76,go_sem]) rfl ⟨rfl,(Yz _ _).alloc (YA _) _⟩
  ·go_enter Tryz.func76,Tryz.ntmps76
   go_wp2;exact bodyPost_ret (v:=.agg #[.int .u8 2,.int .i64 1,.string ⟨#[]⟩]) (by simp[results,Tryz.results76,go_sem]) rfl ⟨rfl,(Yz _ _).alloc (YA _) _⟩
 ·go_enter Tryz.func76,Tryz.ntmps76
  go_wp2;exact bodyPost_ret (v:=.agg #[.int .u8 3,.int .i64 0,.string s]) (by simp[results,Tryz.results76,go_sem]) rfl ⟨rfl,(Yz _ _).alloc (YA _) _⟩
theorem Jf{c:Nat×Int×List Nat}(h:aI c)(w:World):Calls Tryz.prog 76 #[cp c] w fun e w'=>e=.returned (.agg #[.int .u8 (c.1:Int),.int .i64 c.2.1,.string (ai c.2.2)])/\Below w.heap.size w w':=Aq h.val w
theorem wU{w:World}{v:Value}{l:List (Nat×Int×List Nat)}(hs:Sv w v (aC l))(hf:∀ c∈l,aI c)(hl:l.length<=600) :
  Calls Tryz.prog 37 #[v] w fun e w'=>(∃ v',e=.returned v'/\dB w' w.heap.size v' l)/\Below w.heap.size w w':=by
 have HS:=ae hs;have HK:=ae hf;obtain⟨a,cap,rfl,aV,bw⟩:=hs.form1;rw[ax]at *;have hcm':cap<=9223372036854775807:=by unfold maxLen at bw;omega
 clear hs bw hf;go_enter Tryz.func37,Tryz.ntmps37
 go_wp2_with fail;go_loopw [3,4] (fun o i wr=>∃ j:Nat,j<=l.length/\i=.int .i64 (j:Int)/\dB wr w.heap.size o (l.take j)/\Below w.heap.size w wr) (fun _ i _=>l.length-(intOf i).toNat)
 case atStart=>exact⟨0,by omega,rfl,dB.nil _ _,Yz _ _⟩
 case round =>
  obtain⟨j,hj,rfl,aw,ao⟩:=hrel;have HO:=ae aw;have HB:=ae ao;have bM:=ao.size;clear aw ao;by_cases ar:j<l.length
  ·obtain⟨g,off,rfl,hg,bn⟩:=(HS.o.kept HB.o).at1 (cd ar)
   have hlt':(j:Int)<(l.length:Int):=(by omega);have jz:jaH (l.take (j+1)=l.take j++[l[j]]):=ae (YP ar);have hlen':(l.take j).length<=100000:=by rw[YH];omega
   have Rf:=ae (Jf (HK.o l[j] (YF ar)));generalize l[j]=fc at *;generalize l.take j=LL at *;generalize cp fc=vc at *;go_wp2_with fail;refine(Rf.o _).mono ?_;rintro e w1 ⟨rfl,aA⟩;have fK:=ae (HO.o.kept aA);have aN:=ae (HB.o.trans (aA.mono bM));have cG:=aA.size;have jI:=ae (dC w1 (.int .u8 (fc.1:Int)) (.int .i64 fc.2.1) (.string (ai fc.2.2)) 52);clear aA bn;go_wp2_with (first | (at_builtin;refine iv rfl _ _ rfl w.heap.size _ _ fc LL rfl (fK.o.kept (aj _ _)) rfl jI.o.1 jI.o.2.1 jI.o.2.2 hlen' ?c2 ?_))
   case c2=>first | omega | (rw[YB];omega)
   intro v' w5 o5 b5;have cQ:=ae o5;have aJ:=ae ((aN.o.alloc (YG bM cG) _).trans b5);clear o5 b5;go_wp2_with fail;go_roundw
   case rel=>exact⟨j+1,by omega,by go_num,by rw[jz.o];exact cQ.o,aJ.o⟩
   case measure=>simp[intOf];omega
  ·obtain rfl:j=l.length:=by omega
   rw[YK]at HO;have eO:¬ ((l.length:Nat):Int)<(l.length:Int):=(by omega);go_wp2_with fail;go_ret
   exact⟨⟨_,rfl,HO.o⟩,HB.o⟩
theorem rK{w:World}{v1 v2:Value}{l m:List (Nat×Int×List Nat)}(h1:Sc w v1 l)(h2:Sc w v2 m)(aA:∀ c∈l,Bs c.2.2)(ay:∀ c∈m,Bs c.2.2) :
  Calls Tryz.prog 36 #[v1,v2] w fun e w'=>e=.returned (.bool (decide (l=m)))/\Below w.heap.size w w':=by
 have gI:=ae h1;have eP:=ae h2;have aN:=ae aA;have aK:=ae ay;obtain⟨a,cap,rfl,aV,bw⟩:=h1.form;obtain⟨a2,cap2,rfl,BZ,pR⟩:=h2.form;have hcm':cap<=9223372036854775807:=by unfold maxLen at bw;omega
 have hcm2':cap2<=9223372036854775807:=by unfold maxLen at pR;omega
 clear h1 h2 aA ay bw pR;by_cases bg:l.length=m.length
 ·have fb:(((l.length:Nat):Int) != (m.length:Int))=false:=by simp[bg]
  have Fo:=ae bg;clear bg;go_enter Tryz.func36,Tryz.ntmps36
  go_wp2_with fail;go_loopw [5] (fun i wr=>∃ j:Nat,j<=l.length/\i=.int .i64 (j:Int)/\l.take j=m.take j/\Below w.heap.size w wr) (fun i _=>l.length-(intOf i).toNat)
  case atStart=>exact⟨0,by omega,rfl,rfl,Yz _ _⟩
  case round =>
   obtain⟨j,hj,rfl,sg,ao⟩:=hrel;have Qg:=ae sg;have HB:=ae ao;clear sg ao;by_cases ar:j<l.length
   ·have KH:j<m.length:=by have:=Fo.o;omega
    obtain⟨g,off,rfl,hg,c0,c1,c2⟩:=(gI.o.kept HB.o).at ar;obtain⟨g2,off2,rfl,gx,d0,d1,d2⟩:=(eP.o.kept HB.o).at KH;have hlt':(j:Int)<(l.length:Int):=(by omega);have hltm':(j:Int)<(m.length:Int):=(by omega);have jz:=ae (fun he=>kO ar KH Qg.o he);have uY:jaH (l[j]≠m[j]->decide (l=m)=false):=ae (fun h=>YO (fun e=>h (by subst e;rfl)));have HBC:=ae (aN.o l[j] (YF ar));have Cx:=ae (aK.o m[j] (YF KH));rw[fD]at c2 d2;generalize l[j]=c at *;generalize m[j]=d at *;obtain⟨ck,cn,cs⟩:=c;obtain⟨dk,dn,ds⟩:=d;simp only at *;by_cases hk:ck=dk
    ·subst hk
     by_cases hn:cn=dn
     ·subst hn
      by_cases hs:cs=ds
      ·subst hs
       have HN':=ae (jz.o rfl);clear jz uY;generalize ai cs=S at *;go_wp2_with fail;go_quiet (fail)
       go_wp2_with fail;go_roundw
       case rel=>exact⟨j+1,by omega,by go_num,HN'.o,HB.o.trans ⟨rfl,rfl,rfl,YA _,fun _ _=>rfl⟩⟩
       case measure=>simp[intOf];omega
      ·have HNE':=ae (uY.o (fun e=>hs (by simpa using e)))
       have hss:((ai cs).toList==(ai ds).toList)=false:=by
        rw[ee,ee];exact YN.2 (fun e=>hs (by rw[← jL HBC.o,← jL Cx.o,e]))
       clear jz uY hs;generalize ai cs=S at *;generalize ai ds=T at *;go_wp2_with fail;go_quiet (fail)
       go_wp2_with fail;go_ret
       rw[HNE'.o];exact⟨rfl,HB.o.trans ⟨rfl,rfl,rfl,YA _,fun _ _=>rfl⟩⟩
     ·have HNE':=ae (uY.o (fun e=>hn (by have:=YE (fun t=>t.2.1) e;simpa using this)))
      have TT:(cn==dn)=false:=YN.2 hn;clear jz uY hn;generalize ai cs=S at *;generalize ai ds=T at *;go_wp2_with fail;go_quiet (fail)
      go_wp2_with fail;go_ret
      rw[HNE'.o];exact⟨rfl,HB.o.trans ⟨rfl,rfl,rfl,YA _,fun _ _=>rfl⟩⟩
    ·have HNE':=ae (uY.o (fun e=>hk (by have:=YE (fun t=>t.1) e;simpa using this)))
     have Rm:((ck:Int)==(dk:Int))=false:=YN.2 (by omega);clear jz uY hk;generalize ai cs=S at *;generalize ai ds=T at *;go_wp2_with fail;go_quiet (fail)
     go_wp2_with fail;go_ret
     rw[HNE'.o];exact⟨rfl,HB.o.trans ⟨rfl,rfl,rfl,YA _,fun _ _=>rfl⟩⟩
   ·obtain rfl:j=l.length:=by omega
    have Ce:jaH (decide (l=m)=true):=ae (YT (by
     have:=Qg.o;rw[YK]at this;rw[this,Fo.o,YK]))
    have eO:¬ ((l.length:Nat):Int)<(l.length:Int):=(by omega);go_wp2_with fail;go_ret
    rw[Ce.o];exact⟨rfl,HB.o⟩
 ·have fb:(((l.length:Nat):Int) != (m.length:Int))=true:=by
   have:(l.length:Int)≠(m.length:Int):=by omega
   simpa using this
  have Ce:jaH (decide (l=m)=false):=ae (YO (fun e=>bg (by rw[e])));clear bg;go_enter Tryz.func36,Tryz.ntmps36
  go_wp2_with fail;go_ret
  rw[Ce.o];exact⟨rfl,Yz _ _⟩
theorem ym(k:Nat)(w:World):Calls Tryz.prog 164 #[.int .u8 (k:Int)] w fun e w'=>e=.returned (.bool (jN k))/\w'=w:=by
 by_cases h1:((k:Int)==1)=true
 ·have hk:k=1:=by have:(k:Int)=1:=(by simpa using h1);omega
  subst hk;go_enter Tryz.func164,Tryz.ntmps164
  go_wp2;go_ret
  exact⟨rfl,rfl⟩
 ·by_cases h2:((k:Int)==2)=true
  ·have hk:k=2:=by have:(k:Int)=2:=(by simpa using h2);omega
   subst hk;go_enter Tryz.func164,Tryz.ntmps164
   go_wp2;go_ret
   exact⟨rfl,rfl⟩
  ·by_cases h3:((k:Int)==3)=true
   ·have hk:k=3:=by have:(k:Int)=3:=(by simpa using h3);omega
    subst hk;go_enter Tryz.func164,Tryz.ntmps164
    go_wp2;go_ret
    exact⟨rfl,rfl⟩
   ·have h1':((k:Int)==1)=false:=by simpa using h1
    have h2':((k:Int)==2)=false:=by simpa using h2
    have h3':((k:Int)==3)=false:=by simpa using h3
    have HN:jaH (jN k=false):=ae (by
     have a1:(k:Int)≠1:=by simpa using h1
     have a2:(k:Int)≠2:=by simpa using h2
     have a3:(k:Int)≠3:=by simpa using h3
     exact YO (by omega))
    rw[HN.o];clear h1 h2 h3;go_enter Tryz.func164,Tryz.ntmps164
    go_wp2;go_ret
    exact⟨rfl,rfl⟩
theorem DA{w:World}{v:Value}{l:List Fd}(hs:Sf w v l):Calls Tryz.prog 162 #[v] w fun e w'=>e=.returned (.int .u32 (dW l:Int))/\w'=w:=by
 obtain⟨a,cap,rfl,aV,bw⟩:=hs.form;by_cases hl:l.length=0
 ·have h0:((l.length:Int)==0)=true:=by simp[hl]
  have HN:jaH (dW l=0):=ae (by rw[YU hl];rfl);clear hs hl;go_enter Tryz.func162,Tryz.ntmps162
  go_wp2;go_ret
  rw[HN.o];exact⟨rfl,rfl⟩
 ·obtain⟨b,off,rfl,hb,c0,c1,c2,c3⟩:=hs.at (k:=l.length-1) (by omega)
  have HN:=ae (GI (l:=l) (by omega));have h0:((l.length:Int)==0)=false:=by simp[hl]
  obtain⟨m,hm⟩:∃ m,l.length=m+1:=⟨l.length-1,by omega⟩;have hq:((l.length:Int)-1)=(m:Int):=by omega
  have e1:l.length-1=m:=by omega
  generalize hx:(l[l.length-1]'(by omega)).1=x at *;rw[e1]at c0;clear hs hx c1 c2 c3 e1 hl;go_enter Tryz.func162,Tryz.ntmps162
  go_wp2;go_ret
  rw[HN.o];exact⟨rfl,rfl⟩
theorem MZ{w:World}{B:Nat}{v:Value}{u:List (Nat×Nat)}(h:w.ownsRow B 3 1 v u.length (sgn u u.length)):∃ a cap,v=.slice a u.length cap/\u.length<=cap/\cap<=maxLen/\∀ k (hk:k<u.length),∃ g,a=some ⟨g,0,none⟩/\w.cell? ⟨g,k,none⟩=some (.int .i64 (u[k].1:Int)):=by
 obtain⟨a,cap,rfl,h1,h2⟩:=aM h;refine⟨a,cap,rfl,h1,h2,fun k hk=>?_⟩;obtain⟨g,cap',e,_,_,hc⟩:=(wi h).2 (by omega);simp only[Value.slice.injEq]at e;exact⟨g,e.1,hc k _ (FP hk)⟩
theorem Sz{u:List (Nat×Nat)}{k:Nat}(hk:k<u.length):cW k (u.drop k)=(jM k u[k].1 && cW (k+1) (u.drop (k+1))):=by
 rw[Zz hk,mV]
theorem Ar{k c:Nat}(h:97<=c/\c<=122∨c=95∨127<c):jM k c=true:=by
 unfold jM fy;simp
 omega
theorem DB{k c:Nat}(h1:48<=c)(h2:c<=57)(hk:0<k):jM k c=true:=by
 unfold jM dz;simp[hk]
 omega
theorem Na{c:Nat}(h:¬ (97<=c/\c<=122∨c=95∨127<c)):jM 0 c=false:=by
 unfold jM fy;simp
 omega
theorem Jg{k c:Nat}(h:¬ (97<=c/\c<=122∨c=95∨127<c))(h2:¬ (48<=c/\c<=57)):jM k c=false:=by
 unfold jM fy dz;simp
 omega
theorem Jh(s:ByteArray)(w:World):Calls Tryz.prog 49 #[.string s] w fun e w'=>e=.returned (.bool (named s))/\Below w.heap.size w w':=by
 by_cases h1:(s.size:Int)<1
 ·have HN:jaH (named s=false):=ae (by unfold named;rw[YO (by omega)];rfl)
  go_enter Tryz.func49,Tryz.ntmps49
  go_wp2_with fail;go_ret
  rw[HN.o];exact⟨rfl,Yz _ _⟩
 ·by_cases h2:(s.size:Int) > 16
  ·have HN:jaH (named s=false):=ae (by unfold named;rw[YO (by omega)];rfl)
   go_enter Tryz.func49,Tryz.ntmps49
   go_wp2_with fail;go_ret
   rw[HN.o];exact⟨rfl,Yz _ _⟩
  ·have HN:jaH (named s=(cV (lb s) && cW 0 (V (lb s)))):=ae (by unfold named;rw[YT (by omega)];rfl)
   have HC:=ae (mu s (by omega));have hV:=zq (lb s);have hL:=bX s;have hV16:(V (lb s)).length<=16:=(by omega);clear hV hL;generalize cV (lb s)=cl at *;generalize V (lb s)=u at *;go_enter Tryz.func49,Tryz.ntmps49
   go_wp2_with fail;refine(HC.o _).mono ?_;rintro e w1 ⟨⟨va,vb,rfl,dI,ex⟩,aA⟩;obtain⟨a,cap,rfl,aV,bw,bn⟩:=MZ dI;have XW:=ae bn;have aN:=ae aA;have hcm':cap<=9223372036854775807:=by unfold maxLen at bw;omega
   clear dI ex aA bn bw HC;go_wp2_with fail;go_loopw [6] (fun i w'=>∃ k:Nat,w'=w1/\i=.int .i64 (k:Int)/\k<=u.length/\cW 0 u=cW k (u.drop k)) (fun i _=>u.length-(intOf i).toNat)
   case atStart=>exact⟨0,rfl,rfl,by omega,rfl⟩
   case round =>
    obtain⟨k,rfl,rfl,hk,dO⟩:=hrel;have HG:=ae dO;clear dO;by_cases ar:k<u.length
    ·obtain⟨g,rfl,hc⟩:=XW.o k ar
     have HS:=ae (HG.o.trans (Sz ar));generalize u[k].1=c at *;by_cases hA:97<=c/\c<=122∨c=95∨127<c
     ·have HK:=ae (Ar (k:=k) hA)
      have hd:(48<=(c:Int)/\(c:Int)<=57)∨(c:Int)<48∨¬ (c:Int)<=57:=(by omega);rcases hA with ⟨q1,q2⟩ | q1 | q1
      ·have t1:(c:Int)>=97:=by omega
       have t2:(c:Int)<=122:=(by omega);have t3:(c:Int)>=48:=(by omega);have t4:¬ (c:Int)<=57:=(by omega);clear hd;go_wp2_with fail;go_roundw
       case rel=>exact⟨k+1,trivial,by go_num,by omega,by rw[HS.o,HK.o];rfl⟩
       case measure=>simp[intOf];omega
      ·have t0:((c:Int)==95)=true:=by simp;omega
       subst q1;clear hd;go_wp2_with fail;go_roundw
       case rel=>exact⟨k+1,trivial,by go_num,by omega,by rw[HS.o,HK.o];rfl⟩
       case measure=>simp[intOf];omega
      ·have t0:((c:Int)==95)=false:=by simp;omega
       have t1:(c:Int)>=97:=(by omega);have t2:¬ (c:Int)<=122:=(by omega);have t3:(c:Int)>=48:=(by omega);have t4:¬ (c:Int)<=57:=(by omega);have t5:(c:Int) > 127:=(by omega);clear hd;go_wp2_with fail;go_roundw
       case rel=>exact⟨k+1,trivial,by go_num,by omega,by rw[HS.o,HK.o];rfl⟩
       case measure=>simp[intOf];omega
     ·have t0:((c:Int)==95)=false:=by simp;omega
      have t5:¬ (c:Int) > 127:=(by omega);by_cases hD:48<=c/\c<=57
      ·have t1:¬ (c:Int)>=97:=by omega
       have t3:(c:Int)>=48:=(by omega);have t4:(c:Int)<=57:=(by omega);by_cases uK:k=0
       ·subst uK
        have HK:=ae (Na hA);clear hA hD;go_wp2_with fail;go_ret
        refine⟨?_,aN.o⟩;rw[HN.o,HS.o,HK.o];simp
       ·have HK:=ae (DB (k:=k) hD.1 hD.2 (by omega))
        have hkp:(k:Int) > 0:=(by omega);have hkp2:0<k:=(by omega);clear hA hD uK;go_wp2_with fail;go_roundw
        case rel=>exact⟨k+1,trivial,by go_num,by omega,by rw[HS.o,HK.o];rfl⟩
        case measure=>simp[intOf];omega
      ·have HK:=ae (Jg (k:=k) hA hD)
       have TU:(c:Int)<48∨(57<(c:Int)/\(c:Int)<97)∨(122<(c:Int)):=(by omega);clear hA hD;rcases TU with q | ⟨q,q'⟩ | q
       ·have t1:¬ (c:Int)>=97:=by omega
        have t3:¬ (c:Int)>=48:=(by omega);go_wp2_with fail;go_ret
        refine⟨?_,aN.o⟩;rw[HN.o,HS.o,HK.o];simp
       ·have t1:¬ (c:Int)>=97:=by omega
        have t3:(c:Int)>=48:=(by omega);have t4:¬ (c:Int)<=57:=(by omega);go_wp2_with fail;go_ret
        refine⟨?_,aN.o⟩;rw[HN.o,HS.o,HK.o];simp
       ·have t1:(c:Int)>=97:=by omega
        have t2:¬ (c:Int)<=122:=(by omega);have t3:(c:Int)>=48:=(by omega);have t4:¬ (c:Int)<=57:=(by omega);go_wp2_with fail;go_ret
        refine⟨?_,aN.o⟩;rw[HN.o,HS.o,HK.o];simp
    ·obtain rfl:k=u.length:=by omega
     have eO:¬ ((u.length:Nat):Int)<(u.length:Int):=(by omega);go_wp2_with fail;go_ret
     refine⟨?_,aN.o⟩;rw[HN.o,HG.o,ZO];simp[cW]
theorem SA{w:World}{v:Value}{l:List Fd}(hs:Sf w v l)(n:ByteArray):Calls Tryz.prog 50 #[v,.string n] w fun e w'=>e=.returned (.bool (mJ l n))/\w'=w:=by
 have HS:=ae hs;obtain⟨a,cap,rfl,aV,bw⟩:=hs.form;clear hs;go_enter Tryz.func50,Tryz.ntmps50
 go_wp2_with fail;go_loopw [5] (fun i w'=>∃ k:Nat,w'=w/\i=.int .i64 (k:Int)/\k<=l.length/\mJ l n=mJ (l.drop k) n) (fun i _=>l.length-(intOf i).toNat)
 case atStart=>exact⟨0,rfl,rfl,by omega,rfl⟩
 case round =>
  obtain⟨k,rfl,rfl,hk,dO⟩:=hrel;have HG:=ae dO;clear dO;by_cases ar:k<l.length
  ·obtain⟨b,off,rfl,hb,c0,c1,c2,c3⟩:=HS.o.at ar
   have HT:=ae (HG.o.trans (vZ (n:=n) ar));have hlt':(k:Int)<(l.length:Int):=(by omega);generalize l[k].2.1=m at *;have hse:=tW m n;clear c0 c2 c3;by_cases Li:m=n
   ·subst Li
    have hse':(m.toList==m.toList)=true:=by rw[tW];simp
    clear hse;go_wp2_with fail;go_ret
    refine⟨?_,rfl⟩;rw[HT.o];simp
   ·have hse':(m.toList==n.toList)=false:=by rw[tW,YO Li]
    have HM:=ae (YO Li);clear hse Li;go_wp2_with fail;go_roundw
    case rel=>exact⟨k+1,trivial,by go_num,by omega,by rw[HT.o,HM.o];rfl⟩
    case measure=>simp[intOf];omega
  ·obtain rfl:k=l.length:=by omega
   have eO:¬ ((l.length:Nat):Int)<(l.length:Int):=(by omega);go_wp2_with fail;go_ret
   refine⟨?_,rfl⟩;rw[HG.o,ZO];rfl
theorem Nb{w:World}(f:Fd)(n:ByteArray){B:Nat}(hB:B<w.heap.size)(hc:w.cell? ⟨B,0,none⟩=some (.string n)) :
  Calls Tryz.prog 199 #[nM f,.pointer (some ⟨B,0,none⟩)] w fun e w'=>e=.returned (.bool (decide (f.2.1=n)))/\Below w.heap.size w w':=by
 unfold nM;have HE:=ae (tW f.2.1 n);generalize f.2.1=m at *;generalize f.1=x0 at *;generalize f.2.2.1=x2 at *;generalize f.2.2.2=x3 at *;go_enter Tryz.func199,Tryz.ntmps199
 go_wp2_with fail;go_ret
 refine⟨?_,(Yz _ _).alloc (YA _) _⟩;rw[← HE.o];rfl
theorem Ji{w:World}{v:Value}{l:List Fd}(hs:Sf w v l)(n:ByteArray){B:Nat}(hB:B<w.heap.size)(hc:w.cell? ⟨B,0,none⟩=some (.string n)) :
  Calls Tryz.prog 225 #[v,.func (.func 199) #[] #[.pointer (some ⟨B,0,none⟩)]] w fun e w'=>(∃ z:Int,e=.returned (.int .i64 z)/\decide (z>=0)=mJ l n)/\Below w.heap.size w w':=by
 have HS:=ae hs;have HC:=ae hc;obtain⟨a,cap,rfl,aV,bw⟩:=hs.form;clear hs hc;go_enter Tryz.func225,Tryz.ntmps225
 go_wp2_with fail;go_loopw [8] (fun i w'=>∃ k:Nat,i=.int .i64 (k:Int)/\k<=l.length/\mJ l n=mJ (l.drop k) n/\Below w.heap.size w w') (fun i _=>l.length-(intOf i).toNat)
 case atStart=>exact⟨0,rfl,by omega,rfl,Yz _ _⟩
 case round =>
  obtain⟨k,rfl,hk,dO,ao⟩:=hrel;have HG:=ae dO;have HB:=ae ao;have bM:=ao.size;clear dO ao;by_cases ar:k<l.length
  ·obtain⟨b,off,rfl,hb,c0,c1,c2,c3⟩:=(HS.o.kept HB.o).at ar
   have HT:=ae (HG.o.trans (vZ (n:=n) ar));have hlt':(k:Int)<(l.length:Int):=(by omega);have kj:=ae (Nb l[k] n (w:=wr) (B:=B) (by omega) ((HB.o.cell (p:=⟨B,0,none⟩) hB).trans HC.o));unfold nM at kj;generalize decide (l[k].2.1=n)=d at *;generalize l[k].1=x0 at *;generalize l[k].2.1=x1 at *;generalize l[k].2.2.1=x2 at *;generalize l[k].2.2.2=x3 at *;go_wp2_with fail;refine kj.o.mono ?_;rintro e w2 ⟨rfl,ay⟩;have aK:=ae (HB.o.trans (ay.mono bM));clear ay c0 c1 c2 c3;cases d
   ·go_wp2_with fail
    go_roundw
    case rel=>exact⟨k+1,by go_num,by omega,by rw[HT.o];rfl,aK.o⟩
    case measure=>simp[intOf];omega
   ·go_wp2_with fail
    go_ret
    refine⟨⟨_,rfl,?_⟩,aK.o⟩;rw[HT.o,Bool.true_or];simp
  ·obtain rfl:k=l.length:=by omega
   have eO:¬ ((l.length:Nat):Int)<(l.length:Int):=(by omega);go_wp2_with fail;go_ret
   refine⟨⟨_,rfl,?_⟩,HB.o⟩;rw[HG.o,ZO];rfl
theorem yn{w:World}{v:Value}{l:List Fd}(hs:Sf w v l)(n:ByteArray){B:Nat}(hB:B<w.heap.size)(hc:w.cell? ⟨B,0,none⟩=some (.string n)) :
  Calls Tryz.prog 198 #[v,.func (.func 199) #[] #[.pointer (some ⟨B,0,none⟩)]] w fun e w'=>e=.returned (.bool (mJ l n))/\Below w.heap.size w w':=by
 have HI:=ae (Ji hs n hB hc);clear hs hc;go_enter Tryz.func198,Tryz.ntmps198
 go_wp2_with fail;refine HI.o.mono ?_;rintro e w1 ⟨⟨z,rfl,hz⟩,aA⟩;have HZ:=ae hz;have HB:=ae aA;clear hz aA;go_wp2_with fail;go_ret
 refine⟨?_,HB.o⟩;rw[← HZ.o];rfl
theorem tY{w:World}{v:Value}{l:List Fd}(hs:Sf w v l)(n:ByteArray):Calls Tryz.prog 163 #[v,.string n] w fun e w'=>e=.returned (.bool (tj l n))/\Below w.heap.size w w':=by
 have hmf:∀(fn:Fn) (first cap:Array Value) (w:World),(Instr.makeFunc fn first cap).run Tryz.prog w=.ok (.func fn first cap) w:=fun _ _ _ _=>rfl
 have HM:=ae (vm n);have HS:=ae (hs.kept (aj w (.cells #[.string n] 9)));have HF:jaH (tj l n=(named n && !mJ l n)):=ae rfl;have HC0:=ae (aX w (.string n) 9);clear hs;go_enter Tryz.func163,Tryz.ntmps163
 go_wp2_with fail;refine(HM.o _).mono ?_;rintro e w1 ⟨rfl,aA⟩;have gI:=ae (HS.o.kept aA);have Rk:=ae ((aA.cell (p:=⟨w.heap.size,0,none⟩) (by show w.heap.size<_;rw[YB];omega)).trans HC0.o);have cG:=aA.size;rw[YB]at cG;have aN:=ae (ag (aj w (.cells #[.string n] 9)) aA);clear aA;cases hnm:named n with
 | false =>
  rw[hnm]at HF;clear hnm;go_wp2_with fail;go_ret
  rw[HF.o];exact⟨rfl,aN.o⟩
 | true =>
  rw[hnm]at HF;clear hnm;go_wp2_with fail;refine(yn gI.o n (B:=w.heap.size) (by omega) Rk.o).mono ?_;rintro e w2 ⟨rfl,ay⟩;have aK:=ae (ag aN.o ay);clear ay;go_wp2_with fail;go_ret
  rw[HF.o];exact⟨rfl,aK.o⟩
theorem DC{w:World}{v:Value}{l:List Fd}(hs:Sf w v l)(f:Fd):Calls Tryz.prog 116 #[v,nM f] w fun e w'=>e=.returned (.int .i64 (eU l f:Int))/\Below w.heap.size w w':=by
 unfold nM;obtain⟨i,n,k,nd⟩:=f;simp only;have HM:jaH (eU l (i,n,k,nd)=if i<=dW l then 81 else if tj l n=false then 80 else if jN k=false then 10 else if (nd != decide (l.length=0))=true∨(l.length=0/\k=2) then 82 else 0):=ae rfl;generalize eU l (i,n,k,nd)=R at *;have HS:=ae (hs.kept (aj w (.cells #[.int .u32 (i:Int),.string n,.int .u8 (k:Int),.bool nd] 81)));have bV:=ae (aj w (.cells #[.int .u32 (i:Int),.string n,.int .u8 (k:Int),.bool nd] 81));obtain⟨c0,c1,c2,c3⟩:=gN w (.int .u32 (i:Int)) (.string n) (.int .u8 (k:Int)) (.bool nd) 81;have C1:=ae c1;have C2:=ae c2;have C3:=ae c3;have hz:w.heap.size<(w.alloc (.cells #[.int .u32 (i:Int),.string n,.int .u8 (k:Int),.bool nd] 81)).heap.size:=by rw[YB];omega
 clear c1 c2 c3;generalize hW:w.alloc (.cells #[.int .u32 (i:Int),.string n,.int .u8 (k:Int),.bool nd] 81)=W at *;have HL:=ae (fun m=>DA (tX HS.o m));have lz:=ae (fun m=>tY (tX HS.o m) n);obtain⟨a,cap,rfl,aV,bw⟩:=hs.form;have XX:=ae (ym k);obtain⟨ky,hky⟩:∃ ky,((l.length:Int)==0)=ky:=⟨_,rfl⟩
 have HD:jaH (decide (l.length=0)=ky):=ae (by
  rw[← hky];by_cases h:l.length=0
  ·rw[YT h];simp[h]
  ·rw[YO h];simp[h])
 have HLB:jaH ((l.length=0)↔ky=true):=ae (by rw[← hky];simp);rw[HD.o]at HM;clear hs aV bw;have yX:=ae (show dW l=dW l from rfl);generalize dW l=la at *;have ob:((i:Int)<=(la:Int))↔i<=la:=by omega
 go_enter Tryz.func116,Tryz.ntmps116
 go_wp2_with fail;try rw[hW]
 clear hW;by_cases hi:i<=la
 ·have hi':(i:Int)<=(la:Int):=by omega
  rw[Yy hi]at HM;clear ob hi;go_quiet ((go_at_call 162;exact Calls.quiet_of_same (HL.o _)))
  go_wp2_with fail;go_ret
  rw[HM.o];exact⟨rfl,ak bV.o _⟩
 ·have hi':¬ (i:Int)<=(la:Int):=by omega
  rw[Yx hi]at HM;clear ob hi;go_quiet ((go_at_call 162;exact Calls.quiet_of_same (HL.o _)))
  have c1:=C1.o;go_wp2_with fail;refine(lz.o _).mono ?_;rintro e w1 ⟨rfl,aA⟩;have hbW:=(ak (Yz W.heap.size W) _).trans aA;have aN:=ae (ag bV.o hbW);have c2:=(hbW.cell (p:=⟨w.heap.size,2,none⟩) hz).trans C2.o;have c3:=(hbW.cell (p:=⟨w.heap.size,3,none⟩) hz).trans C3.o;have C3':=ae c3;clear aA hbW c0 c1;by_cases hf:tj l n=false
  ·rw[Yy hf]at HM
   rw[hf];clear hf c2 c3;go_wp2_with fail;go_ret
   rw[HM.o];exact⟨rfl,aN.o⟩
  ·rw[Yx hf]at HM
   have hf':tj l n=true:=by simpa using hf
   rw[hf'];clear hf hf' c3;go_wp2_with fail;refine(XX.o _).mono ?_;rintro e w2 ⟨rfl,rfl⟩;by_cases hk:jN k=false
   ·rw[Yy hk]at HM
    rw[hk];clear hk;go_wp2_with fail;go_ret
    rw[HM.o];exact⟨rfl,aN.o⟩
   ·rw[Yx hk]at HM
    have hk':jN k=true:=by simpa using hk
    rw[hk'];clear hk hk';have c3:=C3'.o;cases nd
    ·cases ky
     ·have HR:jaH (R=0):=by
       show _=_
       rw[HM.o];exact Yx (fun h=>by rcases h with h | ⟨h,_⟩;(· cases h);(· have:=HLB.o.1 h;cases this))
      clear HM;go_wp2_with fail;go_ret
      rw[HR.o];exact⟨rfl,aN.o⟩
     ·have HR:jaH (R=82):=by show _=_;rw[HM.o];exact Yy (Or.inl rfl)
      clear HM;go_wp2_with fail;go_ret
      rw[HR.o];exact⟨rfl,aN.o⟩
    ·cases ky
     ·have HR:jaH (R=82):=by show _=_;rw[HM.o];exact Yy (Or.inl rfl)
      clear HM;go_wp2_with fail;go_ret
      rw[HR.o];exact⟨rfl,aN.o⟩
     ·by_cases h2:k=2
      ·have HR:jaH (R=82):=by show _=_;rw[HM.o];exact Yy (Or.inr ⟨HLB.o.2 rfl,h2⟩)
       have h2':((k:Int)==2)=true:=by simp;omega
       clear HM h2;go_wp2_with fail;go_ret
       rw[HR.o];exact⟨rfl,aN.o⟩
      ·have HR:jaH (R=0):=by show _=_;rw[HM.o];exact Yx (fun h=>by rcases h with h | ⟨_,h⟩;(· cases h);(· exact h2 h))
       have h2':((k:Int)==2)=false:=by simp;omega
       clear HM h2;go_wp2_with fail;go_ret
       rw[HR.o];exact⟨rfl,aN.o⟩
end Go.Proofs.YtpljdjmpamjkhaaGreatDoor
