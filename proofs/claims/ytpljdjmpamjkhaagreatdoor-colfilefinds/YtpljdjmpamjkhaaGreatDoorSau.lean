import Derived.Test.YtpljdjmpamjkhaaGreatDoorSat
import Derived.Test.YtpljdjmpamjkhaaGreatDoorSas
set_option linter.all false
set_option maxRecDepth 100000
set_option maxHeartbeats 4000000
namespace Go.Proofs.YtpljdjmpamjkhaaGreatDoor
open Tryz
open Go.RowKit Go.Lib
def St.make{T:Nat}{w W:World}{a:Option Addr}{n cap:Nat}{b:List Nat}(hs:Sv w (.slice a n cap) (aA .u8 b))(hb:Bs b)(hB:jgu w W) :
  St T (W.alloc (.cells #[.slice a b.length cap,.int .i64 ((0:Nat):Int)] T)) W.heap.size b 0:=by
 obtain⟨a',cap',e,h1,h2,h3,h4⟩:=hs;simp only[Value.slice.injEq]at e;obtain⟨rfl,rfl,rfl⟩:=e;rw[am]at *;refine⟨a,cap,je2 W _,h1,h2,hb,h3,λh0=>?_⟩;obtain⟨g,off,e,hg,hc⟩:=h4 h0;refine⟨g,off,e,jeY hg hB.size,λj hj=>?_⟩;have hB':jgu w (W.alloc (.cells #[.slice a b.length cap,.int .i64 ((0:Nat):Int)] T)):=hB.alloc hB.size _;rw[hB'.cell (p:=⟨g,off+j,none⟩) hg];exact hc j _ (bN hj)
def Qp{w:World}{v:Value}{l:List Nat}(hs:Sv w v (aA .u8 l))(hl:l.length<=100000000) :
  Calls prog 93 #[v] w (ee w l):=by
 have HS:=ae hs;obtain⟨ad,cap,rfl,h1,h2,h3,_⟩:=hs;rw[am]at *;cases ad with
 | none =>
  have hc:=h3 rfl;subst hc;have tN:l=[]:=jeW (by omega);subst tN;have hq:(binOp .eql 30 (.slice none 0 0) (.slice none 0 0)).run prog w=.ok (.bool true) w:=jgo w 30 5 none 0 0 0 0 underlying30;go_enter func93,ntmps93
  go_wp2_with fail;go_ret
  exact⟨⟨_,rfl,aM.nil _ _⟩,jez _ _⟩
 | some ad =>
  have HN:=ae (wy w);have fJ:=ae (HS.o.kept (aj w (.cells #[] 5)));clear h3;have hq:(binOp .eql 30 (.slice (some ad) l.length cap) (.slice none 0 0)).run prog w=.ok (.bool false) w:=jgo w 30 5 (some ad) l.length cap 0 0 underlying30;go_enter func93,ntmps93
  go_wp2_with (first | (at_builtin;refine aC rfl _ _ rfl w.heap.size _ _ [] l rfl ?q1 rfl ?q2 ?c1 ?c2 ?_))
  case q1=>exact HN.o
  case q2=>exact fJ.o
  case c1=>simp;omega
  case c2=>rw[jeB];omega
  intro v3 w3 o3 aJ;have dL:=ae o3;have aY:=ae ((aj w (.cells #[] 5)).trans aJ);clear o3 aJ;go_wp2_with fail;go_ret
  exact⟨⟨_,rfl,dL.o⟩,aY.o⟩
def yQ(b:List Nat):Nat×List Fd×List Nat×Nat :=
 match cD b with
 | .ok ((id,l),r)=>(id,l,r,0)
 | .error c=>(0,[],[],c)
def Zz{b b':List Nat}{id:Nat}{l:List Fd}(h:Rds cD b 0 (id,l) b' 0):yQ b=(id,l,b',0):=by
 have e:=h.1 rfl;rw[jey rfl]at e;unfold yQ;rw[e]
def KB{b b':List Nat}{f id:Nat}{l:List Fd}(h:Rds cD b 0 (id,l) b' f)(hf:f≠0):yQ b=(0,[],[],f):=by
 have e:=h.1 rfl;rw[jex hf]at e;unfold yQ;rw[e]
def ZA(w:World)(R:Nat×List Fd×List Nat×Nat)(e:Ending)(w':World):Prop :=
 (∃ v u,e=.returned (.tuple #[.agg #[.int .u32 (R.1:Int),v],u,.int .i64 (R.2.2.2:Int)])/\fh w' w.heap.size v R.2.1/\aM w' w.heap.size u R.2.2.1)/\jgu w w'
def Shr{α : Type}(m:List Nat->Except Nat (α×List Nat)):Prop:=∀ b x r,m b=.ok (x,r)->r.length<=b.length
def Shr.bind{α β : Type}{m:List Nat->Except Nat (α×List Nat)}{k:α->List Nat->Except Nat (β×List Nat)}(h:Shr m)(hk:∀ x,Shr (k x)):Shr (aw m k):=by
 intro b y r e;cases hm:m b with
 | error c=>rw[bY hm]at e;cases e
 | ok q =>
  obtain⟨x,s⟩:=q;rw[cB hm]at e;exact jeK (hk x s y r e) (h b x s hm)
def Shr.pure{α β : Type}(g:α->β)(x:α):Shr (λr=>.ok (g x,r)):=by
 intro b y r e;cases e
 exact jeA _
def oH(room:Nat):Shr (gY room):=by
 intro b x r e;unfold gY at e;split at e
 ·cases e
 ·split at e
  ·cases e
  ·cases e
   rw[jeX];omega
def Qq(n:Nat):Shr (textR n):=by
 intro b x r e;unfold textR at e;split at e
 ·cases e
 ·cases e
  rw[jeX];omega
def ZB:Shr uZ:=(oH _).bind λi=>((oH _).bind λn=>Qq n).bind λs=>(oH _).bind λk=>(oH _).bind λn=>Shr.pure (λ_:Nat=>(i,s,k,decide (n=1))) 0
def FN:∀ n,Shr (kY n)
 | 0=>Shr.pure (λ_:Nat=>[]) 0
 | n+1=>(FN n).bind λl=>ZB.bind λf=>Shr.pure (λ_:Nat=>l++[f]) 0
def KD:Shr cD :=
 ((oH _).bind λi=>(oH _).bind λn=>(FN n).bind λl=>Shr.pure (λ_:Nat=>(i,l)) 0).bind λs=>by
  intro b x r e;simp only at e;split at e
  ·cases e;exact jeA _
  ·cases e
def ZC{b b1:List Nat}{F:Nat}{x:Nat×List Fd}(h:Rds cD b 0 x b1 F)(hF:F=0):b1.length<=b.length:=by
 have e:=h.1 rfl;rw[jey hF]at e;exact KD _ _ _ e
def Uns(w:World)(q:Nat)(W:World)(b:List Nat)(f id:Nat)(v:Value)(l:List Fd):Prop :=
 St 200 W (w.heap.size+1) b f/\w.heap.size+1<q/\W.heap[w.heap.size]?=some (.cells #[.int .u32 0,.slice none 0 0] 25 (0,0)) /\
 W.heap[q]?=some (.cells #[.int .u32 (id:Int),v] 25 (0,0))/\jgu w W/\fh W (w.heap.size+2) v l
def Uns.size{w W:World}{q f id:Nat}{b:List Nat}{v:Value}{l:List Fd}(h:Uns w q W b f id v l):q<W.heap.size:=(Array.getElem?_eq_some_iff.1 h.2.2.2.1).1
def Uns.kept{w W W':World}{q f id:Nat}{b:List Nat}{v:Value}{l:List Fd}(h:Uns w q W b f id v l)(hb:jgu W W'):Uns w q W' b f id v l:=by
 have hz:=h.size;obtain⟨h1,h2,h3,h4,h5,h6⟩:=h;exact⟨h1.kept hb h1.lt,h2,(hb.block _ (by omega)).trans h3,(hb.block _ (by omega)).trans h4,h5.trans (hb.mono h5.size),h6.kept hb⟩
def Uns.call{w W W':World}{q f f' id:Nat}{b b':List Nat}{v:Value}{l:List Fd}(h:Uns w q W b f id v l)(hs:St 200 W' (w.heap.size+1) b' f')(hf:Fr (w.heap.size+1) W.heap.size W W'):Uns w q W' b' f' id v l:=by
 have hz:=h.size;obtain⟨h1,h2,h3,h4,h5,h6⟩:=h;exact⟨hs,h2,(hf.block _ (by omega) (by omega)).trans h3,(hf.block _ (by omega) (by omega)).trans h4,h5.trans (hf.below (by omega) h5.size),Fr.own hf h6 (by omega)⟩
def Uns.facts{w W:World}{q f id:Nat}{b:List Nat}{v:Value}{l:List Fd}(h:Uns w q W b f id v l) :
  (W.cell? ⟨q,0,none⟩=some (.int .u32 (id:Int))/\W.cell? ⟨q,1,none⟩=some v) /\
  (W.cell? ⟨w.heap.size,0,none⟩=some (.int .u32 0)/\W.cell? ⟨w.heap.size,1,none⟩=some (.slice none 0 0)) /\
  (W.frozen? ⟨w.heap.size,0,none⟩=false/\W.frozen? ⟨w.heap.size,1,none⟩=false):=by
 obtain⟨h1,h2,h3,h4,h5⟩:=h;refine⟨⟨?_,?_⟩,⟨?_,?_⟩,⟨?_,?_⟩⟩<;>first | (rw[an h4];rfl) | (rw[an h3];rfl) | (simp[World.frozen?,h3];done)
def ZD{b b1:List Nat}{f1 i:Nat}{l:List Fd}(h:Rds Dy b 0 (i,l) b1 f1):Rds cD b 0 (i,l) b1 (orf f1 (chk i l)):=by
 unfold orf;by_cases hf:f1=0
 ·rw[jey hf];subst hf;exact FM h
 ·rw[jex hf];exact h.bind (Rds.dead (i,l) hf)
def KE{w:World}{v:Value}{b:List Nat}(hs:Sv w v (aA .u8 b))(hb:Bs b)(hl:b.length<=90000000) :
  Calls prog 96 #[v] w (ZA w (yQ b)):=by
 obtain⟨a,cap,rfl,bg,bx⟩:=hs.form1;rw[am]at *;have HS0:=ae (St.make (T:=200) hs hb (aj w (.cells #[.int .u32 0,.slice none 0 0] 25)));have bR:(w.alloc (.cells #[.int .u32 0,.slice none 0 0] 25)).heap.size=w.heap.size+1:=jeB _ _;have HH0:=ae ((aj (w.alloc (.cells #[.int .u32 0,.slice none 0 0] 25)) (.cells #[.slice a b.length cap,.int .i64 ((0:Nat):Int)] 200)).block w.heap.size (by omega) |>.trans (je2 w _));have ce:=ae (((aj w (.cells #[.int .u32 0,.slice none 0 0] 25))).alloc (by omega) (.cells #[.slice a b.length cap,.int .i64 ((0:Nat):Int)] 200));rw[bR]at HS0;clear hs;have hzW:((w.alloc (.cells #[.int .u32 0,.slice none 0 0] 25)).alloc (.cells #[.slice a b.length cap,.int .i64 ((0:Nat):Int)] 200)).heap.size=w.heap.size+2:=by rw[jeB,bR]
 have HZW:=ae hzW;clear hzW;generalize hW:(w.alloc (.cells #[.int .u32 0,.slice none 0 0] 25)).alloc (.cells #[.slice a b.length cap,.int .i64 ((0:Nat):Int)] 200)=W at *;have hW':(w.alloc (.cells #[.int .u32 0,.slice none 0 0] 25)).alloc (.cells #[.slice a b.length cap,.int .i64 0] 200)=W:=hW;go_enter func96,ntmps96
 go_wp2_with fail;try rw[hW']
 clear hW hW' bR;refine(KA HS0.o).mono ?_;rintro e w3 ⟨id,l,v,b',f',rfl,fy,pq,jE,dD,ln,hr3,iC⟩;obtain⟨va,vcap,hv,_,_⟩:=aZ fy;subst hv
 have HU4:jgt (Uns w w3.heap.size (w3.alloc (.cells #[.int .u32 (id:Int),.slice va l.length vcap] 25)) b' f' id (.slice va l.length vcap) l):=by
  have hz:=HZW.o;have gy:=iC.size;have aJ:=aj w3 (.cells #[.int .u32 (id:Int),.slice va l.length vcap] 25);refine ae ⟨ln.kept aJ ln.lt,by omega,(aJ.block _ (by omega)).trans ((iC.block _ (by omega) (by omega)).trans HH0.o),je2 w3 _,(ce.o.trans (iC.below (by omega) (by omega))).trans (aJ.mono (by omega)),?_⟩;rw[hz]at fy;exact fy.kept aJ
 have jL:=ae (ZD hr3);have HID:=ae pq;clear fy ln hr3 iC dD pq;obtain⟨⟨c0,c1⟩,⟨d0,d1⟩,⟨z0,z1⟩⟩:=HU4.o.facts;have HQL:jgt (w3.heap.size<(w3.alloc (.cells #[.int .u32 (id:Int),.slice va l.length vcap] 25)).heap.size):=ae (by rw[jeB];omega);go_wp2_with fail;generalize hq:w3.heap.size=q at *;generalize hX:w3.alloc (.cells #[.int .u32 (id:Int),.slice va l.length vcap] 25)=X at *;try rw[hX]
 clear hX hq;refine(Ap HU4.o.2.2.2.2.2.sf id).mono ?_;rintro e w5 ⟨rfl,bQ⟩;have HU5:=ae (HU4.o.kept bQ);clear bQ;go_wp2_with fail;refine(mF HU5.o.1 (chk id l)).mono ?_;rintro e w6 ⟨rfl,Dd,Ld⟩;have HU6:=ae (HU5.o.call Dd Ld);clear Dd Ld c0 c1 d0 d1 z0 z1 HU5 HU4;generalize orf f' (chk id l)=F at *;obtain⟨⟨c0,c1⟩,⟨d0,d1⟩,⟨z0,z1⟩⟩:=HU6.o.facts;obtain⟨ra,rcap,r0,r1,r2,r3,r4,r5,r6,_,_⟩:=HU6.o.1.cells2;have MI:=ae r6;have HQ:=ae HU6.o.2.1;have jdn:¬ w.heap.size=w.heap.size+1:=by omega
 have sn:¬ w.heap.size+1=w.heap.size:=by omega
 have hne3:¬ w.heap.size=q:=by have:=HQ.o;omega
 have jdc:¬ q=w.heap.size:=by have:=HQ.o;omega
 clear r6 r4 r5;by_cases hF:F=0
 ·have hFa:((F:Int) != 0)=false:=by simp[hF]
  have HBL:jgt (b'.length<=100000000):=ae (by have:=ZC jL.o hF;omega)
  have HOKR:jgt (yQ b=(id,l,b',0)):=by
   have h:=jL.o;rw[hF]at h;exact ae (Zz h)
  clear hF
  have mH:jgt (∀ m,Calls prog 93 #[.slice ra b'.length rcap] (w6.drewN m) λe w'=>∃ u,e=.returned u/\aM w' (w.heap.size+1) u b'/\Uns w q w' b' F id (.slice va l.length vcap) l/\(w'.cell? ⟨q,0,none⟩=some (.int .u32 (id:Int))/\w'.cell? ⟨q,1,none⟩=some (.slice va l.length vcap))/\(w'.frozen? ⟨w.heap.size,0,none⟩=false/\w'.frozen? ⟨w.heap.size,1,none⟩=false)/\(w'.cell? ⟨w.heap.size,0,none⟩=some (.int .u32 0)/\w'.cell? ⟨w.heap.size,1,none⟩=some (.slice none 0 0))/\w'.cell? ⟨w.heap.size+1,0,none⟩=some (.slice ra b'.length rcap)):=ae (λm=>by
   have sH:jgu w6 (w6.drewN m):=ak (jez w6.heap.size w6) m;refine(Qp (MI.o.kept sH) HBL.o).mono ?_;rintro e w' ⟨⟨u,rfl,ou⟩,hb'⟩;have ap:=ai sH hb';have hu:=HU6.o.kept ap;obtain⟨e0,e1,e2⟩:=hu.facts;refine⟨u,rfl,?_,hu,e0,e2,e1,(ap.cell (p:=⟨w.heap.size+1,0,none⟩) HU6.o.1.lt).trans r0⟩;have hz:w.heap.size+1<=(w6.drewN m).heap.size:=jeK (jeV HU6.o.1.lt) sH.size;exact bL ou hz)
  go_wp2_with fail
  go_region_held3 (λw'=>w'.cell? ⟨q,0,none⟩=some (.int .u32 (id:Int))/\w'.cell? ⟨q,1,none⟩=some (.slice va l.length vcap)/\w'.cell? ⟨w.heap.size+1,0,none⟩=some (.slice ra b'.length rcap)) (first | assumption | go_keep) (first
   | (go_at_call 93;refine(mH.o _).mono ?_;rintro e w7 ⟨u7,rfl,o7,hu7,⟨g0,g1⟩,⟨g2,g3⟩,⟨g4,g5⟩,g6⟩;have oV:=ae o7;have HU7:=ae hu7;clear o7 hu7))
  go_wp2_with fail;refine bodyPost_ret (v:=.tuple #[.agg #[.int .u32 (id:Int),.slice va l.length vcap],u7,.int .i64 ((0:Nat):Int)]) (by simp[results,results96,go_sem,g4,g5]) rfl ?_;rw[HOKR.o];refine⟨⟨_,_,rfl,(ES HU7.o.2.2.2.2.2 (by omega) _ _).low (by omega),?_⟩,pU HU7.o.2.2.2.2.1 (jeA _) _ _⟩;exact bL (Fr.own (((Fr.refl w.heap.size w7.heap.size w7).set 0 _).set 1 _) oV.o (by omega)) (by omega)
 ·have hFa:((F:Int) != 0)=true:=by simp[hF]
  have HER:=ae (KB jL.o hF);clear hF;go_wp2_with fail;go_region
  go_wp2_with fail;refine bodyPost_ret (v:=.tuple #[.agg #[.int .u32 ((0:Nat):Int),.slice none 0 0],.slice none 0 0,.int .i64 (F:Int)]) (by simp[results,results96,go_sem,d0,d1]) rfl ?_;rw[HER.o];exact⟨⟨_,_,rfl,fh.nil _ _,aM.nil _ _⟩,(pU HU6.o.2.2.2.2.1 (jeA _) _ _).drew⟩
def xS{b:List Nat}(h:spl b=none):jq b=none:=by
 unfold spl at h;unfold jq;split
 ·rfl
 ·next h4 =>
  rw[jex h4]at h;split
  ·rfl
  ·next h5 =>
   rw[jex h5]at h;cases h
def Qr{b c f:List Nat}(h:spl b=some (c,f)):jq b=match cD f with
  | .error _=>none
  | .ok ((id,fs),r)=>if (gQ fs c r).2.2.2=true then none else some (id,fs,fU 1 64 (db r),(gQ fs c r).1):=by
 unfold spl at h;unfold jq;split
 ·next h4 =>
  rw[jey h4]at h;cases h
 ·next h4 =>
  rw[jex h4]at h;split
  ·next h5 =>
   rw[jey h5]at h;cases h
  ·next h5 =>
   rw[jex h5]at h;simp only[Option.some.injEq,Prod.mk.injEq]at h;obtain⟨rfl,rfl⟩:=h;rfl
def jcp{b c f:List Nat}(h:spl b=some (c,f))(h8:Bs b):Bs c/\Bs f/\c.length<=b.length/\f.length<=b.length:=by
 unfold spl at h;split at h
 ·cases h
 ·split at h
  ·cases h
  ·simp only[Option.some.injEq,Prod.mk.injEq]at h
   obtain⟨rfl,rfl⟩:=h;refine⟨h8.take _,(h8.take _).drop _,by rw[jeH];omega,by rw[jeX,jeH];omega⟩
def NeR{α : Type}(m:List Nat->Except Nat (α×List Nat)):Prop:=∀ b c,m b=.error c->c≠0
def NeR.bind{α β : Type}{m:List Nat->Except Nat (α×List Nat)}{k:α->List Nat->Except Nat (β×List Nat)}(h:NeR m)(hk:∀ x,NeR (k x)):NeR (aw m k):=by
 intro b c e;cases hm:m b with
 | error d =>
  rw[bY hm]at e;cases e
  exact h b _ hm
 | ok q =>
  obtain⟨x,s⟩:=q;rw[cB hm]at e;exact hk x s c e
def NeR.num(n:Nat):NeR (gY n):=by
 intro b c e;unfold gY at e;split at e
 ·next h=>cases e;exact h
 ·split at e
  ·cases e;decide
  ·cases e
def NeR.textR(n:Nat):NeR (textR n):=by
 intro b c e;unfold Go.Proofs.YtpljdjmpamjkhaaGreatDoor.textR at e;split at e
 ·cases e;decide
 ·cases e
def NeR.fld:NeR uZ:=(NeR.num _).bind λi=>((NeR.num _).bind λn=>NeR.textR n).bind λs=>(NeR.num _).bind λk=>(NeR.num _).bind λn=>λb c e=>by cases e
def NeR.flds:∀ n,NeR (kY n)
 | 0=>λb c e=>by cases e
 | n+1=>(NeR.flds n).bind λl=>NeR.fld.bind λf=>λb c e=>by cases e
def KF:NeR cD :=
 ((NeR.num _).bind λi=>(NeR.num _).bind λn=>(NeR.flds n).bind λl=>λb c e=>by cases e).bind λs=>by
  intro b c e;simp only at e;split at e
  ·cases e
  ·next h=>cases e;exact h
def BsR{α : Type}(m:List Nat->Except Nat (α×List Nat)):Prop:=∀ b x r,m b=.ok (x,r)->Bs b->Bs r
def BsR.bind{α β : Type}{m:List Nat->Except Nat (α×List Nat)}{k:α->List Nat->Except Nat (β×List Nat)}(h:BsR m)(hk:∀ x,BsR (k x)):BsR (aw m k):=by
 intro b y r e hb;cases hm:m b with
 | error c=>rw[bY hm]at e;cases e
 | ok q =>
  obtain⟨x,s⟩:=q;rw[cB hm]at e;exact hk x s y r e (h b x s hm hb)
def BsR.pure{α : Type}(x:α):BsR (λb=>.ok (x,b)):=λb y r e hb=>by cases e;exact hb
def BsR.num(n:Nat):BsR (gY n):=by
 intro b x r e hb;unfold gY at e;split at e
 ·cases e
 ·split at e
  ·cases e
  ·cases e;exact hb.drop _
def BsR.textR(n:Nat):BsR (textR n):=by
 intro b x r e hb;unfold Go.Proofs.YtpljdjmpamjkhaaGreatDoor.textR at e;split at e
 ·cases e
 ·cases e;exact hb.drop _
def BsR.fld:BsR uZ:=(BsR.num _).bind λi=>((BsR.num _).bind λn=>BsR.textR n).bind λs=>(BsR.num _).bind λk=>(BsR.num _).bind λn=>BsR.pure _
def BsR.flds:∀ n,BsR (kY n)
 | 0=>BsR.pure _
 | n+1=>(BsR.flds n).bind λl=>BsR.fld.bind λf=>BsR.pure _
def KG:BsR cD :=
 ((BsR.num _).bind λi=>(BsR.num _).bind λn=>(BsR.flds n).bind λl=>BsR.pure _).bind λs=>by
  intro b x r e hb;simp only at e;split at e
  ·cases e;exact hb
  ·cases e
def KH(f:List Nat):(∃ c,cD f=.error c/\c≠0/\yQ f=(0,[],[],c))∨∃ id fs r,cD f=.ok ((id,fs),r)/\yQ f=(id,fs,r,0):=by
 unfold yQ;cases h:cD f with
 | error c=>exact .inl ⟨c,rfl,KF f c h,rfl⟩
 | ok q =>
  obtain⟨⟨id,fs⟩,r⟩:=q;exact .inr ⟨id,fs,r,rfl,rfl⟩
def KI{w:World}{v:Value}{b:List Nat}(hs:Sv w v (aA .u8 b))(h8:Bs b)(hl:b.length<=80000000)(hw:nU w.heap.size v) :
  Calls prog 53 #[v] w λe w'=>((jq b=none/\∃ fp g,e=.returned (.tuple #[.pointer fp,.int .i64 g,.bool false])) ∨
   ∃ id fs g gs fp fv,jq b=some (id,fs,g,gs)/\e=.returned (.tuple #[.pointer (some ⟨fp,0,none⟩),.int .i64 ((g:Nat):Int),.bool true])/\Fil w' w.heap.size fp id fv gs/\fh w' w.heap.size fv fs)/\jgu w w':=by
 have HSP:=ae (Qh hs h8 (by omega) hw);obtain⟨va,vc,rfl,_,_⟩:=hs.form1;rw[am]at *;cases hsp:spl b with
 | none =>
  have HN:=ae (xS hsp);rw[hsp]at HSP;clear hs h8 hsp;go_enter func53,ntmps53
  go_wp2_with fail;refine HSP.o.mono ?_;rintro e w1 ⟨⟨v1,v2,rfl,_⟩,az⟩;have aL:=ae az;clear az;go_wp2_with fail;go_ret3
  exact⟨.inl ⟨HN.o,_,_,rfl⟩,aL.o⟩
 | some cf =>
  obtain⟨c,f⟩:=cf;have pu:=ae (Qr hsp);obtain⟨q1,q2,q3,q4⟩:=jcp hsp h8;rw[hsp]at HSP;have HC:=ae (KH f);have HQ1:=ae q1;have HQ2:=ae q2;have HUN:=ae (λ(U:World) (v2:Value) (hU:Sv U v2 (aA .u8 f))=>KE hU q2 (by omega));generalize yQ f=R at *;obtain⟨R1,R2,R3',R4⟩:=R;clear hs h8 hsp q1 q2;go_enter func53,ntmps53
  go_wp2_with fail;refine HSP.o.mono ?_;rintro e w1 ⟨⟨v1,v2,rfl,iF⟩,az⟩;obtain⟨s1,s2,s3,s4⟩:=iF c f rfl;have aL:=ae az;have iW:=ae s1;have Dg:=ae s3;have HU2:=ae (HUN.o w1 v2 s2);clear az iF s1 s2 s3 s4 HUN;go_wp2_with fail;refine HU2.o.mono ?_;rintro e w2 ⟨⟨fv,u,rfl,RU,hou⟩,ap⟩;have hB2:=ai aL.o ap;obtain⟨a1,k1,e1,_,_⟩:=iW.o.form1;obtain⟨a2,k2,e2,_,_⟩:=hou.sv.form1;obtain⟨a3,k3,e3,_,_⟩:=RU.sf.form;rw[am]at e1 e2;subst e1 e2 e3;simp only at *;rcases HC.o with ⟨er,hu1,hu2,hu3⟩ | ⟨id,fs,r,hu1,hu3⟩
  ·have HN:jgt (jq b=none):=ae (by rw[pu.o,hu1])
   obtain⟨rfl,rfl,rfl,rfl⟩:R1=0/\R2=[]/\R3'=[]/\R4=er:=by simpa using hu3
   have dC:((R4:Int) != 0)=true:=by
    have:(R4:Int)≠0:=by omega
    simpa using this
   have aG:=ae hB2;clear hu1 hu2 hu3 RU hou ap hB2 pu HC;go_wp2_with fail;go_ret3
   exact⟨.inl ⟨HN.o,_,_,rfl⟩,ai aG.o (aj _ _)⟩
  ·obtain⟨rfl,rfl,rfl,rfl⟩:R1=id/\R2=fs/\R3'=r/\R4=0:=by simpa using hu3
   have hBr:=KG f _ _ hu1 HQ2.o;obtain⟨Rp,_,_⟩:=uN hu1;have HKK:=ae (gR Rp);obtain⟨_,_,hf8,_⟩:=qA Rp;have HE:jgt (jq b=if (gQ R2 c R3').2.2.2=true then none else some (R1,R2,fU 1 64 (db R3'),(gQ R2 c R3').1)):=ae (by rw[pu.o,hu1]);have hbA:=aj w2 (.cells #[.int .u32 (R1:Int),.slice a3 R2.length k3] 25);have hbB:=aj (w2.alloc (.cells #[.int .u32 (R1:Int),.slice a3 R2.length k3] 25)) (.cells #[.slice a1 c.length k1,.slice a2 R3'.length k2,.bool false] 157);have hAB:=ai hbA hbB;have sA:(w2.alloc (.cells #[.int .u32 (R1:Int),.slice a3 R2.length k3] 25)).heap.size=w2.heap.size+1:=jeB _ _;have hx:=je2 (w2.alloc (.cells #[.int .u32 (R1:Int),.slice a3 R2.length k3] 25)) (.cells #[.slice a1 c.length k1,.slice a2 R3'.length k2,.bool false] 157);rw[sA]at hx;have hw12:w.heap.size<=w2.heap.size:=hB2.size;have hfb:∀ i,(Value.slice a3 R2.length k3).ownBlock=some i->i<w2.heap.size+1:=λi hi=>by have:=(aN RU hi).2.1;omega
   have hR3:R3 ((w2.alloc (.cells #[.int .u32 (R1:Int),.slice a3 R2.length k3] 25)).alloc (.cells #[.slice a1 c.length k1,.slice a2 R3'.length k2,.bool false] 157)) (w2.heap.size+1) c R3' false :=
    ⟨a1,k1,a2,k2,hx,⟨(iW.o.kept ap).kept hAB,λi hi=>by have:=Dg.o i hi;omega,HQ1.o⟩,hou.sv.kept hAB,λi hi=>by have:=(aN hou hi).2.1;omega,hBr⟩
   have GS:=ae (Kw hR3 (RU.sf.kept hAB) hfb HKK.o R1 hf8 (by omega));have cN:=ae (ai hB2 hAB);have yY:=ae (RU.kept hAB);have XO:=ae hfb;have XI:=ae hw12;have jD:jgt (((w2.alloc (.cells #[.int .u32 (R1:Int),.slice a3 R2.length k3] 25)).alloc (.cells #[.slice a1 c.length k1,.slice a2 R3'.length k2,.bool false] 157)).heap.size=w2.heap.size+2):=ae (by rw[jeB,jeB]);have HS01:=ae aL.o.size;clear hu1 hu3 RU hou ap hB2 pu HC hBr Rp hbA hbB hAB sA hx hR3 hfb;go_wp2_with fail;generalize (w2.alloc (.cells #[.int .u32 (R1:Int),.slice a3 R2.length k3] 25)).alloc (.cells #[.slice a1 c.length k1,.slice a2 R3'.length k2,.bool false] 157)=W4 at *;refine GS.o.mono ?_;rintro e w4 ⟨fp,rfl,⟨c',f',hr4⟩,vQ,pt⟩;have WR:jgt (jgu w w4):=ae (cN.o.trans (pt.below (by omega) (by have:=jD.o;omega)))
   have HOE:jgt (fh w4 w.heap.size (.slice a3 R2.length k3) R2):=ae (by
    have h1:fh w4 w1.heap.size (.slice a3 R2.length k3) R2:=bT yY.o λk hk=>pt.block k (by have:=XO.o k hk;have:=jD.o;omega) (by have:=XO.o k hk;omega)
    exact⟨h1.1,h1.2.imp (λx=>x) λ⟨g,cap,cur,hv,hb,r⟩=>⟨g,cap,cur,hv,jeK HS01.o hb,r⟩⟩)
   have ql:jgt ((gQ R2 c R3').2.2.2=false->Fil w4 w.heap.size fp R1 (.slice a3 R2.length k3) (gQ R2 c R3').1):=ae (λh=>(vQ h).low (by have:=jD.o;omega));obtain⟨_,_,_,_,⟨_,_,r2⟩,⟨_,_,r3⟩,_,_⟩:=hr4.cells;clear hr4 vQ pt;cases hF:(gQ R2 c R3').2.2.2
   ·rw[hF]at r2 HE ql
    have tT:=ae (ql.o rfl);have MN:jgt (jq b=some (R1,R2,fU 1 64 (db R3'),(gQ R2 c R3').1)):=ae (by rw[HE.o,jex (by decide)]);clear hF HE ql;go_wp2_with fail;go_quiet (fail)
    go_wp2_with fail;go_ret3
    exact⟨.inr ⟨_,_,_,_,_,_,MN.o,rfl,tT.o.kept (ak (jez _ _) _),HOE.o.kept (ak (jez _ _) _)⟩,ak WR.o _⟩
   ·rw[hF]at r2 HE
    have MN:jgt (jq b=none):=ae (by rw[HE.o,jey rfl]);clear hF HE ql;go_wp2_with fail;go_quiet (fail)
    go_wp2_with fail;go_ret3
    exact⟨.inl ⟨MN.o,_,_,rfl⟩,ak WR.o _⟩
def Gro.rows{W:World}{B:Nat}{a b:Value}{rows:List Row}{sts:List Stt}(h:Gro W B (.agg #[a,b]) rows sts) :
  ∃ R,a=.slice (some ⟨R,0,none⟩) rows.length rows.length/\B<=R/\R<W.heap.size/\(∃ va vn vc,b=.slice va vn vc)/\∀ i (h:i<rows.length),∃ rv,W.cell? ⟨R,i,none⟩=some rv/\OwnV W B rv rows[i]:=by
 obtain⟨R,rvs,vs,e,h1,h2,h3⟩:=h;simp only[Value.agg.injEq,Array.mk.injEq,List.cons.injEq,and_true]at e;obtain⟨rfl,rfl⟩:=e;obtain⟨b1,b2,_⟩:=aN h1 (k:=R) rfl;refine⟨R,rfl,b1,b2,dI h3,λi hi=>?_⟩;obtain⟨rv,e1,e2⟩:=h2 i hi;obtain⟨g,e,_,_,hc⟩:=gS h1 e1;cases e
 exact⟨rv,hc,e2⟩
def lX{gs:List Gr}{j:Nat}(h:j<gs.length):bJ (gs.take (j+1))=bJ (gs.take j)++gs[j].1:=by
 unfold bJ;rw[jeO h,jeR,jgg];simp
def FO{gs:List Gr}{j:Nat}(h:j<gs.length){r:Row}(hr:r∈gs[j].1):r∈bJ gs:=by
 unfold bJ;exact List.mem_flatten.2 ⟨gs[j].1,jeN.2 ⟨gs[j],jeD h,rfl⟩,hr⟩
def eO(gs:List Gr)(j:Nat):(bJ (gs.take j)).length<=(bJ gs).length:=by
 have:bJ gs=bJ (gs.take j)++bJ (gs.drop j):=by
  unfold bJ;rw[<- jgg,<- jeR,jfz]
 rw[this,jeC];omega
def Qs{w:World}{B fp id:Nat}{fv:Value}{gs:List Gr}(h:Fil w B fp id fv gs)(bH:∀ r∈bJ gs,r.length<=1000)(CU:(bJ gs).length<=100000) :
  Calls prog 23 #[.pointer (some ⟨fp,0,none⟩)] w λe w'=>(∃ v l,e=.returned v/\Ow w' w.heap.size v l/\l.map Prod.snd=bJ gs)/\jgu w w':=by
 obtain⟨gv,xs,h1,h2,h3,h4⟩:=h;obtain⟨ga,gc,rfl,hgc,hgm⟩:=bn h3;have c2:w.cell? ⟨fp,2,none⟩=some (.slice ga gs.length gc):=by rw[an h1];rfl
 have HG:jgt (∀ k (hk:k<gs.length),∃ G R va vn vc,ga=some ⟨G,0,none⟩/\gs[k].1.length<=100000/\∀ W,jgu w W->W.cell? ⟨G,k*2,none⟩=some (.slice (some ⟨R,0,none⟩) gs[k].1.length gs[k].1.length)/\W.cell? ⟨G,k*2+1,none⟩=some (.slice va vn vc) /\
   ∀ i (h:i<gs[k].1.length),∃ ra rc,W.cell? ⟨R,i,none⟩=some (.slice ra gs[k].1[i].length rc)/\gs[k].1[i].length<=1000/\Sv W (.slice ra gs[k].1[i].length rc) (aE gs[k].1[i])):=ae (λk hk=>by
  obtain⟨a,b,e1,e2,e3⟩:=h4 k hk;obtain⟨R,rfl,g1,g2,⟨va,vn,vc,rfl⟩,g4⟩:=e3.rows;obtain⟨G,rfl,_,hG,ju⟩:=gS h3 e1;obtain⟨_,e,_,_,jv⟩:=gS h3 e2;cases e
  have hr:=lX hk;have qt:=eO gs (k+1);rw[hr,jeC]at qt;refine⟨G,R,va,vn,vc,rfl,by omega,λW hb=>⟨(hb.cell (p:=⟨G,k*2,none⟩) hG).trans (by rw[je6];exact ju),(hb.cell (p:=⟨G,k*2+1,none⟩) hG).trans (by rw[je6 k];exact jv),λi hi=>?_⟩⟩;obtain⟨rv,f1,f2⟩:=g4 i hi;have fs:=f2.sv;obtain⟨ra,rc,rfl,_,_⟩:=fs.form1;rw[ay]at *;exact⟨ra,rc,(hb.cell (p:=⟨R,i,none⟩) g2).trans f1,bH _ (FO hk (jeD hi)),fs.kept hb⟩)
 have HT:=ae (λj=>eO gs j);have ye:=ae (λj (h:j<gs.length)=>lX h);have HTA:jgt (bJ (gs.take gs.length)=bJ gs):=ae (by rw[jeJ]);have HT0:jgt (bJ (gs.take 0)=[]):=ae rfl;have Rq:=ae CU;clear h1 h2 h3 h4 bH CU;go_enter func23,ntmps23
 go_wp2_with fail;go_loopw [3,13] (λa i wr=>∃(k:Nat) (l:List (Value×Row)),i=.int .i64 (k:Int)/\k<=gs.length/\Ow wr w.heap.size a l/\l.map Prod.snd=bJ (gs.take k)/\jgu w wr) (λ_ i _=>gs.length-(intOf i).toNat)
 case atStart=>exact⟨0,[],rfl,by omega,Ow.nil _ _,HT0.o.symm,jez _ _⟩
 case round =>
  obtain⟨k,l,rfl,hk,how,oX,ao⟩:=hrel;have HB:=ae ao;have HO:=ae how;have iw:=ae oX;obtain⟨la,lc,rfl,De,qs,_⟩:=how.form;clear ao how oX;by_cases ar:k<gs.length
  ·obtain⟨G,R,va,vn,vc,rfl,XP,hcells⟩:=HG.o k ar
   obtain⟨ca,cb,_⟩:=hcells wr HB.o;have HC:=ae hcells;have hlt':(k:Int)<(gs.length:Int):=(by omega);have hBW:jgu w (wr.alloc (.cells #[.slice (some ⟨R,0,none⟩) gs[k].1.length gs[k].1.length,.slice va vn vc] 109)):=HB.o.alloc HB.o.size _;have cN:=ae hBW;obtain⟨cg,_⟩:=aS wr (.slice (some ⟨R,0,none⟩) gs[k].1.length gs[k].1.length) (.slice va vn vc) 109;have HCG:=ae cg;have hOW:=(HO.o.kept (aj wr (.cells #[.slice (some ⟨R,0,none⟩) gs[k].1.length gs[k].1.length,.slice va vn vc] 109)));have sL:=ae hOW;have HKS:=ae (ye.o k ar);have HKL:=ae (HT.o (k+1));clear hcells hBW hOW cg;go_wp2_with fail;generalize wr.alloc (.cells #[.slice (some ⟨R,0,none⟩) gs[k].1.length gs[k].1.length,.slice va vn vc] 109)=WA at *
   have Xh:jgt (∀ m,(bJ (gs.take k)++gs[k].1.take m).length<=100000):=ae (λm=>by
    have h1:=HKS.o;have h2:=HKL.o;have h3:=Rq.o;rw[h1,jeC]at h2;rw[jeC,jeH];omega)
   clear HO ca cb;go_loopw [3,20] (λa i wx=>∃(m:Nat) (l2:List (Value×Row)),i=.int .i64 (m:Int)/\m<=gs[k].1.length/\Ow wx w.heap.size a l2/\l2.map Prod.snd=bJ (gs.take k)++gs[k].1.take m/\jgu w wx) (λ_ i _=>gs[k].1.length-(intOf i).toNat)
   case atStart=>exact⟨0,l,rfl,by omega,sL.o,by rw[jfW,jeS];exact iw.o,cN.o⟩
   case round =>
    obtain⟨m,l2,rfl,hm,Ls,Rr,nZ⟩:=hrel;have aG:=ae nZ;have eb:=ae Ls;have sC:=ae Rr;obtain⟨la2,lc2,rfl,hl12,hl22,_⟩:=Ls.form;have aX:=nZ.size
    have hl2n:l2.length<=100000:=by
     have h1:=jeG List.length Rr;have h2:=Xh.o m;rw[jeE]at h1;omega
    clear nZ Ls Rr;by_cases hmt:m<gs[k].1.length
    ·have hmt':(m:Int)<(gs[k].1.length:Int):=by omega
     obtain⟨_,_,GU⟩:=HC.o _ aG.o;obtain⟨ra,rc,hrc,sj,hrs⟩:=GU m hmt;have pr:jgt (gs[k].1.take (m+1)=gs[k].1.take m++[gs[k].1[m]]):=ae (jeO hmt);have mH:=ae (pP hrs sj);generalize gs[k].1[m]=r at *;clear GU hrs;go_wp2_with fail;refine mH.o.mono ?_;rintro e w3 ⟨⟨v3,rfl,fy⟩,aJ⟩;have HV3:=ae fy;have dL:=ae (eb.o.kept aJ);have aY:=ae (aG.o.trans (aJ.mono aX));have gy:=aJ.size;obtain⟨ra',rc',rfl,_,_⟩:=bn fy;have ix:=ae (aV w3 (.slice ra' r.length rc') 79);clear aJ fy mH eb;go_wp2_with (first | (at_builtin;refine gw rfl _ _ rfl w.heap.size _ _ l2 [(.slice ra' r.length rc',r)] rfl (dL.o.kept (aj _ _)) rfl (lm ix.o (by rw[jeB];omega)) ?c1 ?c2 ?c3 ?_))
     case c1 =>
      intro x hx;rw[je9.1 hx];exact(HV3.o.kept (aj _ _)).of_le (by omega)
     case c2=>simp only[je7];omega
     case c3=>rw[jeB];omega
     intro v' w5 o5 b5;have dK:=ae o5;have bq:=ae ((aY.o.alloc (by omega) _).trans b5);clear o5 b5;go_wp2_with fail;go_roundw
     case rel=>exact⟨m+1,_,by go_num,by omega,dK.o,by rw[pr.o,jeR,sC.o,jeQ];rfl,bq.o⟩
     case measure=>simp[intOf];omega
    ·obtain rfl:m=gs[k].1.length:=by omega
     have ed:¬ ((gs[k].1.length:Nat):Int)<(gs[k].1.length:Int):=(by omega);have jaA:jgt (l2.map Prod.snd=bJ (gs.take (k+1))):=ae (by rw[HKS.o,sC.o,jeJ]);go_wp2_with fail;go_roundw
     case rel=>exact⟨k+1,l2,by go_num,by omega,eb.o,jaA.o,aG.o⟩
     case measure=>simp[intOf];omega
  ·obtain rfl:k=gs.length:=by omega
   have ed:¬ ((gs.length:Nat):Int)<(gs.length:Int):=(by omega);have jaA:jgt (l.map Prod.snd=bJ gs):=ae (iw.o.trans HTA.o);go_wp2_with fail;go_ret
   first | exact⟨⟨_,_,rfl,HO.o,jaA.o⟩,HB.o⟩ | exact⟨⟨_,rfl,_,HO.o,jaA.o⟩,HB.o⟩
def Cv{w:World}{B fp id:Nat}{fv:Value}{gs:List Gr}(h:Fil w B fp id fv gs) :
  Calls prog 21 #[.pointer (some ⟨fp,0,none⟩)] w λe w'=>e=.returned (.int .i64 (gs.length:Int))/\w'=w:=by
 obtain⟨gv,xs,h1,h2,h3,h4⟩:=h
 have hgv:∃ ga gc,gv=.slice ga gs.length gc:=by
  rcases h3.2 with ⟨e,e2⟩ | ⟨_,_,_,e,_⟩
  ·rw[e2];exact⟨_,_,e⟩
  ·exact⟨_,_,e⟩
 obtain⟨ga,gc,rfl⟩:=hgv;have c2:w.cell? ⟨fp,2,none⟩=some (.slice ga gs.length gc):=by rw[an h1];rfl
 clear h1 h2 h3 h4;go_enter func21,ntmps21
 go_wp2_with fail;go_ret
 exact⟨rfl,rfl⟩
def uvL1{n:Nat}(h:n<128):(uv n).length=1:=by rw[Sm h];rfl
def uvL2{n:Nat}(h:n<16384):(uv n).length<=2:=by
 rw[pB];exact uvarint_length 1 n (by omega)
def uvL3{n:Nat}(h:n<2097152):(uv n).length<=3:=by
 rw[pB];exact uvarint_length 2 n (by omega)
def wvL2{x:Int}(h0:0<=x)(h:x<=64):(wv x).length<=2:=by
 unfold wv;refine uvL2 ?_;unfold zigzag;rw[jey h0];omega
def FP:∀{l:List Int},(∀ x∈l,0<=x/\x<=64)->(hO l).length<=2*l.length
 | [],_=>by simp[hO]
 | x::t,h=>by
  have h1:=FP (l:=t) (λy hy=>h y (jfS _ hy));have h2:=h x (List.mem_cons_self ..);have h3:=wvL2 h2.1 h2.2;simp only[hO,jeC,jeI];omega
def Vz(n:Nat):by8 n<=n:=by unfold by8;omega
def VA{l:List Int}(h:∀ x∈l,0<=x/\x<=64):(dx l).length<=2*l.length+1:=by
 have h1:=og l 4 0 (by omega);have h2:=FP h;have:(km 0 l).length=(hO l).length:=rfl;unfold dx;omega
def VB{l:List Int}(h:Is l):(dx l).length<=10*l.length+1:=by
 have h1:=og l 4 0 (by omega);have h2:=(oh h).1;have:(km 0 l).length=(hO l).length:=rfl;unfold dx;omega
def FQ{l:List (List Nat)}(h:Ts l)(hm:l.length<=64):(gC l).length<=4+66*l.length:=by
 obtain⟨b1,_⟩:=ol h
 have h1:=VA (l:=ig l) (λx hx=>by
  obtain⟨s,hs,rfl⟩:=jeN.1 hx;have:=(h s hs).1;omega)
 rw[bU]at h1;have h2:=uvL2 (n:=(dx (ig l)).length) (by omega)
 have hp:(plain l).length<=4+66*l.length:=by
  unfold plain jz cnt;simp only[jeI,jeC];omega
 unfold gC;split<;>omega
def KJ{l:jgv}(hm:l.length<=256):(jH l).length<=1+l.length:=by
 unfold jH;split
 ·have hl:=em (eL l) (by rw[bf];exact hm)
  rw[bf]at hl;have:=Vz l.length;rw[jeI,hl];omega
 ·simp
def KL{k:Nat}{l:List Cl}(h:Col k l)(hm:l.length<=64):(es k l).length<=5+67*l.length:=by
 obtain⟨hk,vH,hc⟩:=h;have ho:=jf l;have hh:=KJ vH;unfold es;rw[jeC];obtain rfl | rfl | rfl:k=1∨k=2∨k=3:=by omega
 ·have b1:=VB (lM hc).1
  rw[jeE]at b1;rw[Bx];omega
 ·have hl:=em (jg hc).1 (by rw[jeE];omega)
  rw[jeE]at hl;have:=Vz (bP l).length;rw[Bz,hl];omega
 ·have hw:=FQ (kq hc).1 (by rw[jeE];omega)
  rw[jeE]at hw;rw[BA];omega
def VC{l:List UInt8}(hc:cX l=true):(bE l 4).length<=16:=by
 unfold bE;rw[AW hc,jeH];have:=ru (rs:=br l) (4:Int).toNat;have h4:(4:Int).toNat=4:=rfl;omega
def Mp:∀ rs:List Nat,(lq rs).length<=4*rs.length
 | []=>by simp[lq]
 | r::t=>by
  have:=Mp t;have:=gW r;unfold lq at *;simp only[jfQ,jeC,jeI];omega
def VD{l a:List UInt8}(h:eR l 4=some a)(hl:l.length<=64):a.length<=16:=by
 have h0:=h;rw[ro]at h;unfold df at h;split at h
 ·next hc =>
  have hv:=AW hc;split at h
  ·next h4 =>
   obtain rfl:=Option.some.inj h;have e:=(lr _ l (jeA _) hc).1;have h16:=Mp (br l);rw[hv,jeE]at h4;have e2:=jeG List.length e;omega
  ·split at h
   ·cases h
   ·unfold upL at h
    cases hg:gg (V l) (4:Int).toNat with
    | none=>rw[hg]at h;cases h
    | some i =>
     rw[hg]at h;have hi:=(nw hg).1;simp only[jfC,Option.some.injEq]at h;subst h;have:=gW (nx ((V l).getD i (0,0)).1);have:=ru (rs:=br l) i;rw[<- hv]at this;have h4:(4:Int).toNat=4:=rfl;simp only[jeC,jeH];omega
 ·cases h
def jcq{x:Cl}(hf:aI x){cl:Bool}(hc:cl=true->ex x=true):(mx x cl).2.2.length<=16:=by
 unfold mx;by_cases h:x.1=3/\cl=false
 ·rw[jey h];simp
 ·rw[jex h]
  show (nb _).length<=16
  rw[oz];cases cl with
  | true=>exact VC (hc rfl)
  | false =>
   have hx:x.1≠3:=λe=>h ⟨e,rfl⟩
   have h2:x.2.2=[]:=by
    rcases hf with rfl | ⟨n,rfl,_⟩ | ⟨n,rfl,_⟩ | ⟨s,rfl,_,_⟩
    ·rfl
    ·rfl
    ·rfl
    ·exact absurd rfl hx
   have:=pH (lb (bytesT x.2.2)) 4;rw[bK,be,h2]at this;rw[h2];simp only[jeZ]at this;omega
def ZE{x:Cl}(hf:aI x){cl:Bool}:(fb x cl).1.2.2.length<=16:=by
 unfold fb;by_cases h:x.1=3
 ·rw[jey h]
  cases ha:eR (lb (bytesT x.2.2)) 4 with
  | none=>exact jfl _
  | some a =>
   cases cl
   ·exact jfl _
   ·show (nb a).length<=16
    rw[oz];refine VD ha ?_;rw[bK];exact hf.short
 ·rw[jex h]
  show x.2.2.length<=16
  rcases hf with rfl | ⟨n,rfl,_⟩ | ⟨n,rfl,_⟩ | ⟨s,rfl,_,_⟩
  ·exact jfl _
  ·exact jfl _
  ·exact jfl _
  ·exact absurd rfl h
def VE{cs:List Cl}(hf:∀ c∈cs,aI c):(bO cs).lo.2.2.length<=16/\(bO cs).hi.2.2.length<=16:=by
 have yd:∀ c∈aR cs,aI c:=λc hc=>hf c (by unfold aR at hc;exact(jfX.1 hc).1)
 unfold bO;cases hn:aR cs with
 | nil=>exact⟨jfl _,jfl _⟩
 | cons y r =>
  rw[hn]at yd;have hy:=yd y (by simp);have hr:∀ c∈r,aI c:=λc hc=>yd c (by simp[hc])
  refine⟨jcq (kE hy hr) (λch=>?_),ZE (lS hy hr)⟩;rw[List.all_eq_true]at ch;exact kE (P:=λc=>ex c=true) (ch y (by simp)) (λc hc=>ch c (by simp[hc]))
def Mq{c:Cl}(h:aI c)(h16:c.2.2.length<=16):(jC c).length<=17:=by
 unfold jC;split
 ·rcases h with rfl | ⟨n,rfl,h1⟩ | ⟨n,rfl,h1⟩ | ⟨s,rfl,h1,h2⟩<;>first | (have:=iJ h1;unfold wv at this;simp only;omega) | (simp_all [nul])
 ·split
  ·simp
  ·rw[jeC,uvL1 (by omega)]
   omega
def VF{cs:List Cl}(hf:∀ c∈cs,aI c)(hl:cs.length<=64):(fQ (bO cs)).length<=37:=by
 obtain⟨a1,a2⟩:=gE hf;obtain⟨b1,b2⟩:=VE hf;have c1:=Mq a1 b1;have c2:=Mq a2 b2;obtain⟨n,hn,vY⟩:=nQ cs;have hu:=uvL1 (n:=n) (by omega);unfold fQ;rw[hn,je3];simp only[jeC,je7];split<;>split<;>(try simp only[jeZ])<;>omega
def KM{fs:List Fd}{p:List Row}(hl:p.length<=64)(gl:∀ k,k<fs.length->Col (mW fs k) (cx p k)):∀{k:Nat},k<=fs.length->(gh fs p k).length<=(5+67*p.length)*k:=by
 intro k;induction k with
 | zero=>exact λ_=>by simp[gh]
 | succ k ih =>
  intro hk;have h1:=ih (by omega);have h2:=KL (gl k (by omega)) (by rw[cK];exact hl);rw[cK]at h2;rw[oB,jeC,Nat.mul_succ];omega
def Qt{fs:List Fd}{p:List Row}(h:gG fs p)(hl:p.length<=64)(gl:∀ k,k<fs.length->Col (mW fs k) (cx p k)):∀{k:Nat},k<=fs.length->(ftK fs p k).length<=40*k:=by
 intro k;induction k with
 | zero=>exact λ_=>by simp[ftK]
 | succ k ih =>
  intro hk;have h1:=ih (by omega);have h2:=(jh (gl k (by omega))).1;have h3:=VF (fO h k) (by rw[cK];exact hl);have h4:=uvL3 (n:=(es (mW fs k) (cx p k)).length) (by omega);rw[rz];simp only[jeC];omega
def xT{fs:List Fd}{rs:List Row}{g:Nat}(eI:fs.length<=8)(fY:g<=64)(hk:∀ f∈fs,1<=f.2.2.1/\f.2.2.1<=3)(dh:gG fs rs):∀ j,(oS fs g rs j).length<=40*j+536*min (j*g) rs.length
 | 0=>by simp[oS]
 | j+1=>by
  have h0:=xT eI fY hk dh j;have mT:(prt g rs j).length<=64:=by rw[bX];omega
  have h1:=KM mT (λk mX=>fG (dh.part g j) hk (by omega) mX) (jeA _);have h2:(5+67*(prt g rs j).length)*fs.length<=(5+67*(prt g rs j).length)*8:=jfJ _ eI;rw[bX]at h1 h2;rw[Ao,jeC,jfd,jfT];omega
def AA{fs:List Fd}{rs:List Row}{g:Nat}(eI:fs.length<=8)(fY:g<=64)(hk:∀ f∈fs,1<=f.2.2.1/\f.2.2.1<=3)(dh:gG fs rs):∀ j,(ftJ fs g rs j).length<=320*j
 | 0=>by simp[ftJ]
 | j+1=>by
  have h0:=AA eI fY hk dh j;have mT:(prt g rs j).length<=64:=by rw[bX];omega
  have h1:=Qt (dh.part g j) mT (λk mX=>fG (dh.part g j) hk (by omega) mX) (jeA _);rw[EL,jeC];omega
def qh{id:Nat}{fs:List Fd}{rs:List Row}{g:Nat}(ho:∀ f∈fs,Okf f)(pq:id<4294967296)(hc:chk id fs=0)(sj:rs.length<=60)(dP:1<=g)(fY:g<=64)(dh:gG fs rs):(bG (dO id fs rs g)).length<=65536:=by
 obtain⟨hz,eI,_⟩:=oF hc;have hk:=gR hc;have h1:=il ho (by omega) hz fs.length;rw[jeJ]at h1;have h2:=jJ id (by omega);have h3:=jJ fs.length (by omega);have h4:=jJ rs.length (by omega);have h5:=jJ g (by omega)
 have hn:nps g rs.length<=60:=by
  rcases je0 60 (nps g rs.length)with h | h
  ·have:=(kH (j:=60) (show 0<g by omega)).1 h
   have:60*1<=60*g:=jfJ _ dP;omega
  ·exact h
 have h6:=xT eI fY hk dh (nps g rs.length);have h7:=AA eI fY hk dh (nps g rs.length)
 have h8:(oS fs g rs (nps g rs.length)).length<=34560:=by
  have:=Nat.min_le_right (nps g rs.length*g) rs.length;omega
 unfold bG dO lU jp eY;simp only[jeC,jeI,jeZ,le4];omega
def Mr{fs:List Fd}:∀{rs:List Row},(∀ r∈rs,iY fs r=0)->nL fs rs=0
 | [],_=>rfl
 | x::t,h=>by
  unfold nL;rw[jey (h x (List.mem_cons_self ..))];exact Mr λr hr=>h r (jfS _ hr)
def FR{id:Nat}{fs:List Fd}{rs:List Row}{g:Nat}(hc:chk id fs=0)(dP:1<=g)(fY:g<=64)(hl:rs.length<=256)(hf:gG fs rs):eT id fs rs (g:Int)=0:=by
 unfold eT;rw[jex (by omega),jex (by omega),jex (by omega)];exact Mr λr hr=>(hf r hr).1
def rU{id:Nat}{fs:List Fd}{rs:List Row}{g:Nat}(ho:∀ f∈fs,Okf f)(pq:id<4294967296)(hc:chk id fs=0)(hl:rs.length<=60)(dP:1<=g)(fY:g<=64)(hf:gG fs rs):dZ id fs rs (g:Int)=(bG (dO id fs rs g),0):=by
 have h1:=FR (g:=g) hc dP fY (show rs.length<=256 by omega) hf;have h2:=qh ho pq hc hl dP fY hf;unfold dZ;rw[h1,jex (by simp),je3,jex (by omega)]
def rV{id:Nat}{fs:List Fd}{rs:List Row}{g:Nat}{b:List Nat}(ho:∀ f∈fs,Okf f)(pq:id<4294967296)(WO:∀ r∈rs,∀ c∈r,aI c)(h:dZ id fs rs (g:Int)=(b,0)) :
  rD b=.ok (id,fs,g,(List.range (nps g rs.length)).map λi=>grp fs (prt g rs i)):=by
 have hw:=h;unfold dZ at h;by_cases h0:eT id fs rs (g:Int)≠0
 ·rw[jey h0]at h
  exact absurd (Prod.mk.inj h).2 h0
 rw[jex h0]at h;obtain⟨hc,⟨dP,fY⟩,hl,fR⟩:=nS (Decidable.not_not.1 h0);rw[je3]at h;by_cases hz:65536<(bG (dO id fs rs g)).length
 ·rw[jey hz]at h
  cases (Prod.mk.inj h).2
 rw[jex hz]at h;obtain⟨rfl,_⟩:=Prod.mk.inj h;have hf:gG fs rs:=λr hr=>⟨rS fR r hr,WO r hr⟩
 have lA:(jp id fs rs g).length<4294967296:=by
  have:=(Fv (g:=g) ho pq hc hl (by omega) (by omega) hf).1;omega
 unfold rD;rw[JS];simp only;have ht:(dO id fs rs g).take 3=[67,70,49]:=rfl;have hd:(dO id fs rs g).drop 3=lU id fs rs g:=rfl;rw[jey ht,hd,Kl pq ho hc hf hl (by omega) (by omega) lA];simp only;rw[Fs fs (by omega) rs,jey hw]
def VG{w:World}(ht:Tab w){v fv:Value}{b:List Nat}{B fp id:Nat}{fs:List Fd}{gs:List Gr}{g:Nat}(hs:Sv w v (aA .u8 b))(h8:Bs b)(h:Fil w B fp id fv gs)(hf:Sf w fv fs)(ho:∀ f∈fs,Okf f)(pq:id<4294967296)
  (hr:∀ r∈bJ gs,r.length<=1000/\∀ c∈r,aI c) (CU:(bJ gs).length<=1000) :
  Calls prog 54 #[v,.pointer (some ⟨fp,0,none⟩),.int .i64 (g:Int)] w λe w'=>e=.returned (.bool (decide (dZ id fs (bJ gs) (g:Int)=(b,0))))/\jgu w w':=by
 have HT:=ae ht;have HS:=ae hs;have HF:=ae hf;have h':=h;obtain⟨gv,xs,lC,hB,_,_⟩:=h';have XQ:=(Array.getElem?_eq_some_iff.1 lC).1;obtain⟨fa,fc,rfl,_,_⟩:=hf.form;obtain⟨ba,bc,rfl,_,_⟩:=hs.form1;rw[am]at *
 have MU:jgt (∀ U,jgu w U->U.cell? ⟨fp,0,none⟩=some (.int .u32 (id:Int))/\U.cell? ⟨fp,1,none⟩=some (.slice fa fs.length fc)):=ae (λU hU=>by
  have hh:=(hU.block fp XQ).trans lC;constructor<;>(rw[an hh];rfl))
 have HA:jgt (∀ U,jgu w U->Calls prog 23 #[.pointer (some ⟨fp,0,none⟩)] U λe w'=>∃ a c,e=.returned (.slice a (bJ gs).length c)/\Rv w' (.slice a (bJ gs).length c) (bJ gs)/\jgu w w'/\w'.cell? ⟨fp,0,none⟩=some (.int .u32 (id:Int))/\w'.cell? ⟨fp,1,none⟩=some (.slice fa fs.length fc)):=ae (λU hU=>by
  refine(Qs (h.kept hU) (λr hh=>(hr r hh).1) (by omega)).mono ?_;rintro e w' ⟨⟨v,l,rfl,how,oX⟩,hb⟩;have ap:=ai hU hb;have uW:=how.rv;rw[oX]at uW;obtain⟨a,c,rfl,_⟩:=uW.form;exact⟨a,c,rfl,uW,ap,MU.o _ ap⟩)
 have HW:jgt (∀ U ra rc,jgu w U->Rv U (.slice ra (bJ gs).length rc) (bJ gs)->Calls prog 12 #[.agg #[.int .u32 (id:Int),.slice fa fs.length fc],.slice ra (bJ gs).length rc,.int .i64 (g:Int)] U λe w'=>∃ a c,e=.returned (.tuple #[.slice a (dZ id fs (bJ gs) (g:Int)).1.length c,.int .i64 ((dZ id fs (bJ gs) (g:Int)).2:Int)])/\Sv w' (.slice a (dZ id fs (bJ gs) (g:Int)).1.length c) (aA .u8 (dZ id fs (bJ gs) (g:Int)).1)/\jgu w w'):=ae (λU ra rc hU uW=>by
  refine(nT (HT.o.kept hU) (HF.o.kept hU) uW ho pq (λr hh=>(hr r hh).2) (g:Int)).mono ?_;rintro e w' ⟨⟨v,rfl,how⟩,hb⟩;have iF:=how.sv;obtain⟨a,c,rfl,_,_⟩:=iF.form1;rw[am]at *;exact⟨a,c,rfl,iF,ai hU hb⟩)
 have ze:jgt (Bs (dZ id fs (bJ gs) (g:Int)).1):=ae (by
  unfold dZ;split
  ·exact λx hx=>by simp at hx
  ·next h0 =>
   split
   ·exact λx hx=>by simp at hx
   ·obtain⟨hc,⟨dP,fY⟩,hl,fR⟩:=nS (Decidable.not_not.1 h0)
    rw[je3];exact(nR ho pq hc hl (by omega) (by omega) (λr hh=>⟨rS fR r hh,(hr r hh).2⟩)).2.seal)
 obtain⟨WM,hWM⟩:∃ WM,dZ id fs (bJ gs) (g:Int)=WM:=⟨_,rfl⟩;rw[hWM]at HW ze ⊢;obtain⟨D,hD⟩:∃ D,decide (WM=(b,0))=D:=⟨_,rfl⟩;rw[hD];obtain⟨wb,we⟩:=WM;simp only at HW ze;have HD:=ae hD;clear hD;have xZ:=ae h8;clear hs hf h lC ho hr h8 hWM;obtain⟨c0,c1⟩:=MU.o w (jez _ _);generalize (bJ gs).length=n at *;go_enter func54,ntmps54
 go_wp2_with fail;refine wp_region_noPanic ?_
 go_region_law (first
  | (go_simp;go_at_call 23;refine(HA.o _ ?_).mono ?_;exact ak (jez w.heap.size w) _;rintro e w1 ⟨ra,rc,rfl,Xi,az,d0,d1⟩;have Xj:=ae Xi;have aL:=ae az;clear Xi az;dsimp only)
  | (go_simp;go_at_call 12;refine(HW.o _ _ _ ?_ ?_).mono ?_;(first | exact aL.o | exact ak aL.o _);(first | exact Xj.o | exact Xj.o.kept (ak (jez w1.heap.size w1) _));rintro e w2 ⟨a2,cc2,rfl,cV,ap⟩;have fJ:=ae cV;have aG:=ae ap;clear cV ap;dsimp only)
  | fail)
 all_goals refine NoPanic.normal ?_
 all_goals
  by_cases he:we=0
  ·have hez:(((we:Nat):Int)==0)=true:=by rw[he];rfl
   have WH:=ae (oC fJ.o (HS.o.kept aG.o) ze.o xZ.o)
   have na:jgt (decide (wb=b)=D):=ae (by
    rw[<- HD.o,he];by_cases sd:wb=b
    ·rw[sd];simp
    ·simp[sd])
   rw[na.o]at WH;go_wp2_with fail;refine WH.o.mono ?_;rintro e w3 ⟨rfl,rfl⟩;go_wp2_with fail;go_ret
   exact⟨rfl,aG.o⟩
  ·have hez:(((we:Nat):Int)==0)=false:=by simpa using he
   have na:jgt (D=false):=ae (by rw[<- HD.o];simp[he]);go_wp2_with fail;go_ret
   exact⟨by rw[na.o];rfl,aG.o⟩
def jaT(w:World)(b:List Nat)(e:Ending)(w':World):Prop :=
 ((∃ c,rD b=.error c/\e=.returned (.tuple #[.pointer none,.int .i64 (c:Int)])) ∨
  ∃ id fs g gs fp fv,rD b=.ok (id,fs,g,gs)/\e=.returned (.tuple #[.pointer (some ⟨fp,0,none⟩),.int .i64 0])/\Fil w' w.heap.size fp id fv gs/\fh w' w.heap.size fv fs)/\jgu w w'
def KN{b t:List Nat}(h:jo b=some t)(h8:Bs b):Bs t/\t.length<=b.length:=by
 unfold jo at h;split at h
 ·cases h
  exact⟨h8.take _,by rw[jeH];omega⟩
 ·cases h
def pre3(t:List Nat):([67,70,49]:List Nat).isPrefixOf t=true↔t.take 3=[67,70,49]:=by
 constructor
 ·intro h
  obtain⟨r,rfl⟩:=jfP.1 h;rfl
 ·intro h
  exact jfP.2 ⟨t.drop 3,by rw[<- h,jfz]⟩
def qi{w:World}(ht:Tab w){v:Value}{b:List Nat}(hs:Sv w v (aA .u8 b))(h8:Bs b)(hl:b.length<=80000000) :
  Calls prog 17 #[v] w (jaT w b):=by
 have HT:=ae ht;have HS:=ae hs;have H8:=ae h8;have HO:=ae (UM ht hs.toK h8 (by omega));obtain⟨a,cap,rfl,_,_⟩:=hs.form1;rw[am]at *
 have HE:jgt (rD b=match jo b with
  | none=>.error 101
  | some t=>if t.take 3=[67,70,49] then (match jq (t.drop 3)with
    | none=>.error 102
    | some x=>if dZ x.1 x.2.1 (bJ x.2.2.2) x.2.2.1=(b,0) then .ok x else .error 102) else .error 100):=ae rfl
 have AP:=ae (λt (h:jo b=some t)=>KN h h8);unfold jaT;generalize rD b=OF at *;clear ht hs h8;cases hom:jo b with
 | none =>
  rw[hom]at HE HO;clear hom AP;go_enter func17,ntmps17
  go_wp2_with fail;refine HO.o.mono ?_;rintro e w1 ⟨⟨v1,rfl,o1⟩,az⟩;have aL:=ae az;clear o1 az;simp only[Option.isSome];go_wp2_with fail;go_ret2
  exact⟨.inl ⟨101,HE.o,rfl⟩,aL.o⟩
 | some t =>
  obtain⟨t8,tl⟩:=AP.o t hom;rw[hom]at HE HO;simp only at HE;clear hom AP;have T8:=ae t8;go_enter func17,ntmps17
  go_wp2_with fail;refine HO.o.mono ?_;rintro e w1 ⟨⟨v1,rfl,o1⟩,az⟩;simp only[Option.isSome,Option.getD]at *;have aL:=ae az;have fX:=ae o1;obtain⟨a1,cap1,rfl,_,_⟩:=bn o1;have iF:=o1.sv;have vN:=o1.lt;have HWI:jgt (∀ i,(Value.slice a1 t.length cap1).ownBlock=some i->i<w1.heap.size):=ae (λi hi=>(vN i hi).2);have ap:=en w1 (.cells #[.int .u8 67,.int .u8 70,.int .u8 49] 5 (3,4));have Xk:gH (w1.alloc (.cells #[.int .u8 67,.int .u8 70,.int .u8 49] 5 (3,4))) w1.heap.size (.slice (some ⟨w1.heap.size,0,none⟩) 3 3) [67,70,49]:=Or.inr ⟨rfl,_,rfl,jeA _,je2 _ _⟩;have Xe:=ae (Fy (iF.kept ap) Xk.sv t8 (by intro x hx;simp at hx;omega));have aG:=ae (ai aL.o ap);have HTB2:=ae (HT.o.kept aG.o);have fJ:=ae (HS.o.kept aG.o);have Gw:jgt (∀ p,w1.heap.size<p->True):=ae (λ_ _=>trivial);have hsz2:w1.heap.size<=(w1.alloc (.cells #[.int .u8 67,.int .u8 70,.int .u8 49] 5 (3,4))).heap.size:=ap.size;have HSZ2:=ae hsz2
  have KZ:(convert 30 30 (.slice (some ⟨w1.heap.size,0,none⟩) 3 3)).run prog (w1.alloc (.cells #[.int .u8 67,.int .u8 70,.int .u8 49] 5))=.ok (.slice (some ⟨w1.heap.size,0,none⟩) 3 3) (w1.alloc (.cells #[.int .u8 67,.int .u8 70,.int .u8 49] 5 (3,4))) :=
   run_convert_bytes_const w1 30 5 #[.int .u8 67,.int .u8 70,.int .u8 49] 3 3 underlying30 underlying5
  clear az o1 iF vN ap Xk hsz2 t8 HO;go_wp2_with fail;refine Xe.o.mono ?_;rintro e w3 ⟨⟨v3,rfl,ln,Dl⟩,rfl⟩;generalize w1.alloc (.cells #[.int .u8 67,.int .u8 70,.int .u8 49] 5 (3,4))=W2 at *;have CL:jgt (nU W2.heap.size v3):=ae (Dl W2.heap.size λi hi=>jeY (HWI.o i hi) HSZ2.o);clear Dl Xe;by_cases hp:([67,70,49]:List Nat).isPrefixOf t=true
  ·have hp3:=(pre3 t).1 hp
   rw[jey hp]at ln;rw[jey hp3]at HE;rw[hp];have h38:Bs (t.drop 3):=λx hx=>T8.o x (jgi hx)
   have h3l:(t.drop 3).length<=80000000:=by rw[jeX];omega
   have HRD:=ae (KI (b:=t.drop 3) ln h38 h3l CL.o);have HWH:=ae (λid g fs gs (h:jq (t.drop 3)=some (id,fs,g,gs))=>FH h38 h)
   obtain⟨va3,vn3,vc3,rfl⟩:∃ a n c,v3=.slice a n c:=by
    obtain⟨a,c,e,_⟩:=ln.form1;exact⟨_,_,_,e⟩
   clear hp hp3 ln h38 h3l;go_wp2_with fail;refine HRD.o.mono ?_;rintro e w4 ⟨⟨hrn,fp,g,rfl⟩ | ⟨id,fs,g,gs,fp,fv,hrs,rfl,vQ,how⟩,bD⟩
   ·rw[hrn]at HE
    simp only at HE;have cL:=ae (ai aG.o bD);clear bD hrn HRD HWH;go_wp2_with fail;go_ret2
    exact⟨.inl ⟨102,HE.o,rfl⟩,cL.o⟩
   ·obtain⟨eP,pq,ho,dP,fY,rZ,gl,_⟩:=HWH.o _ _ _ _ hrs
    rw[hrs]at HE;simp only at HE;have eI:=(oF eP).2.1;have HSO:=ae (VG (g:=g) (HTB2.o.kept bD) (fJ.o.kept bD) H8.o vQ how.sf ho pq (λr hr=>⟨by rw[(gl r hr).1];omega,(gl r hr).2⟩) (by omega));obtain⟨D,hD⟩:∃ D,decide (dZ id fs (bJ gs) (g:Int)=(b,0))=D:=⟨_,rfl⟩;rw[hD]at HSO;have HD:=ae hD;have cL:=ae (ai aG.o bD);have zi:=ae vQ;have sL:=ae how;have se:=aG.o.size;clear bD hrs HRD HWH eP pq ho dP fY rZ gl hD vQ how eI;go_wp2_with fail;refine HSO.o.mono ?_;rintro e w5 ⟨rfl,bQ⟩;have bq:=ae (ai cL.o bQ);have Gp:=ae (zi.o.kept bQ);have dK:=ae (sL.o.kept bQ);clear bQ zi sL HSO;cases D with
    | true =>
     have hw:=of_decide_eq_true HD.o;rw[jey hw]at HE;clear hw HD;go_wp2_with fail;go_ret2
     exact⟨.inr ⟨id,fs,g,gs,fp,fv,HE.o,rfl,Gp.o.low se,dK.o.low se⟩,bq.o⟩
    | false =>
     have hw:=of_decide_eq_false HD.o;rw[jex hw]at HE;clear hw HD;go_wp2_with fail;go_ret2
     exact⟨.inl ⟨102,HE.o,rfl⟩,bq.o⟩
  ·have hp2:([67,70,49]:List Nat).isPrefixOf t=false:=Bool.eq_false_iff.2 hp
   rw[jex (λe=>hp ((pre3 t).2 e))]at HE;rw[hp2];clear hp hp2 ln;go_wp2_with fail;go_ret2
   exact⟨.inl ⟨100,HE.o,rfl⟩,aG.o⟩
def KO{w:World}{B fp id:Nat}{fv:Value}{gs:List Gr}(h:Fil w B fp id fv gs)(CU:(bJ gs).length<=100000) :
  Calls prog 20 #[.pointer (some ⟨fp,0,none⟩)] w λe w'=>e=.returned (.int .i64 ((bJ gs).length:Int))/\jgu w w':=by
 obtain⟨gv,xs,h1,h2,h3,h4⟩:=h;obtain⟨ga,gc,rfl,hgc,hgm⟩:=bn h3;have c2:w.cell? ⟨fp,2,none⟩=some (.slice ga gs.length gc):=by rw[an h1];rfl
 have HG:jgt (∀ k (hk:k<gs.length),∃ G R va vn vc,ga=some ⟨G,0,none⟩/\∀ W,jgu w W->W.cell? ⟨G,k*2,none⟩=some (.slice (some ⟨R,0,none⟩) gs[k].1.length gs[k].1.length)/\W.cell? ⟨G,k*2+1,none⟩=some (.slice va vn vc)):=ae (λk hk=>by
  obtain⟨a,b,e1,e2,e3⟩:=h4 k hk;obtain⟨R,rfl,g1,g2,⟨va,vn,vc,rfl⟩,g4⟩:=e3.rows;obtain⟨G,rfl,_,hG,ju⟩:=gS h3 e1;obtain⟨_,e,_,_,jv⟩:=gS h3 e2;cases e
  exact⟨G,R,va,vn,vc,rfl,λW hb=>⟨(hb.cell (p:=⟨G,k*2,none⟩) hG).trans (by rw[je6];exact ju),(hb.cell (p:=⟨G,k*2+1,none⟩) hG).trans (by rw[je6 k];exact jv)⟩⟩)
 have HT:=ae (λj=>eO gs j);have ye:=ae (λj (h:j<gs.length)=>lX h);have HTA:jgt (bJ (gs.take gs.length)=bJ gs):=ae (by rw[jeJ]);have Rq:=ae CU;clear h1 h2 h3 h4 CU;go_enter func20,ntmps20
 go_wp2_with fail;go_loopw [3,11] (λa i wr=>∃ k:Nat,i=.int .i64 (k:Int)/\k<=gs.length/\a=.int .i64 ((bJ (gs.take k)).length:Int)/\jgu w wr) (λ_ i _=>gs.length-(intOf i).toNat)
 case atStart=>exact⟨0,rfl,by omega,rfl,jez _ _⟩
 case round =>
  obtain⟨k,rfl,hk,rfl,ao⟩:=hrel;have HB:=ae ao;clear ao;by_cases ar:k<gs.length
  ·obtain⟨G,R,va,vn,vc,rfl,hcells⟩:=HG.o k ar
   obtain⟨ca,cb⟩:=hcells wr HB.o;have hlt':(k:Int)<(gs.length:Int):=(by omega);have cN:=ae (HB.o.alloc HB.o.size (.cells #[.slice (some ⟨R,0,none⟩) gs[k].1.length gs[k].1.length,.slice va vn vc] 109));obtain⟨cg,_⟩:=aS wr (.slice (some ⟨R,0,none⟩) gs[k].1.length gs[k].1.length) (.slice va vn vc) 109;have hks:=jeG List.length (ye.o k ar);have uS:=HT.o (k+1);have htt:=Rq.o;rw[jeC]at hks;have RG:IntKind.i64.wrap (((bJ (gs.take k)).length:Int)+(gs[k].1.length:Int))=((bJ (gs.take (k+1))).length:Int):=by rw[jfq];omega
   have Lk:=ae (show ((bJ (gs.take (k+1))).length:Int)=((bJ (gs.take (k+1))).length:Int) from rfl);clear hks uS htt hcells;go_wp2_with fail;go_roundw
   case rel=>exact⟨k+1,by go_num,by omega,rfl,cN.o⟩
   case measure=>simp[intOf];omega
  ·obtain rfl:k=gs.length:=by omega
   have ed:¬ ((gs.length:Nat):Int)<(gs.length:Int):=(by omega);have HTE:jgt ((bJ (gs.take gs.length)).length=(bJ gs).length):=ae (jeG List.length HTA.o);go_wp2_with fail;go_ret
   exact⟨by rw[<- HTE.o];rfl,HB.o⟩
end Go.Proofs.YtpljdjmpamjkhaaGreatDoor
