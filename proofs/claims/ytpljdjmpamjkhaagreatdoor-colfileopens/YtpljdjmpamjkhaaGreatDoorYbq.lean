import Derived.Test.YtpljdjmpamjkhaaGreatDoorYax
import Derived.Test.YtpljdjmpamjkhaaGreatDoorYbo
import Derived.Test.YtpljdjmpamjkhaaGreatDoorYbp
import Derived.BigRegion
import Derived.Test.YtpljdjmpamjkhaaGreatDoorYbm
set_option linter.unusedVariables false
set_option linter.unusedSimpArgs false
set_option maxRecDepth 100000
set_option maxHeartbeats 4000000
namespace Go.Proofs.YtpljdjmpamjkhaaGreatDoor
open Go.RowKit Go.Lib
theorem St.make{T:Nat}{w W:World}{a:Option Addr}{n cap:Nat}{b:List Nat}(hs:Sv w (.slice a n cap) (aE .u8 b))(hb:Bs b)(hB:Below w.heap.size w W) :
  St T (W.alloc (.cells #[.slice a b.length cap,.int .i64 ((0:Nat):Int)] T)) W.heap.size b 0:=by
 obtain⟨a',cap',e,h1,h2,h3,h4⟩:=hs;simp only[Value.slice.injEq]at e;obtain⟨rfl,rfl,rfl⟩:=e;rw[ap]at *;refine⟨a,cap,heap_alloc_new W _,h1,h2,hb,h3,fun h0=>?_⟩;obtain⟨g,off,e,hg,hc⟩:=h4 h0;refine⟨g,off,e,Z9 hg hB.size,fun j hj=>?_⟩;have hB':Below w.heap.size w (W.alloc (.cells #[.slice a b.length cap,.int .i64 ((0:Nat):Int)] T)):=hB.alloc hB.size _;rw[hB'.cell (p:=⟨g,off+j,none⟩) hg];exact hc j _ (bR hj)
theorem LS{w:World}{v:Value}{l:List Nat}(hs:Sv w v (aE .u8 l))(hl:l.length<=100000000) :
  Calls Tryz.prog 93 #[v] w (du w l):=by
 have HS:=ae hs;obtain⟨ad,cap,rfl,h1,h2,h3,_⟩:=hs;rw[ap]at *;cases ad with
 | none =>
  have hc:=h3 rfl;subst hc;have pZ:l=[]:=jab (by omega);subst pZ;have hq:(binOp .eql 30 (.slice none 0 0) (.slice none 0 0)).run Tryz.prog w=.ok (.bool true) w:=run_eql_slice_nil w 30 5 none 0 0 0 0 Tryz.underlying30;go_enter Tryz.func93,Tryz.ntmps93
  go_wp2_with fail;go_ret
  exact⟨⟨_,rfl,aC.nil _ _⟩,ZQ _ _⟩
 | some ad =>
  have HN:=ae (uO w);have gC:=ae (HS.out.kept (ak w (.cells #[] 5)));clear h3;have hq:(binOp .eql 30 (.slice (some ad) l.length cap) (.slice none 0 0)).run Tryz.prog w=.ok (.bool false) w:=run_eql_slice_nil w 30 5 (some ad) l.length cap 0 0 Tryz.underlying30;go_enter Tryz.func93,Tryz.ntmps93
  go_wp2_with (first | (at_builtin;refine ar rfl _ _ rfl w.heap.size _ _ [] l rfl ?q1 rfl ?q2 ?c1 ?c2 ?_))
  case q1=>exact HN.out
  case q2=>exact gC.out
  case c1=>simp;omega
  case c2=>rw[ZS];omega
  intro v3 w3 o3 aP;have cX:=ae o3;have bM:=ae ((ak w (.cells #[] 5)).trans aP);clear o3 aP;go_wp2_with fail;go_ret
  exact⟨⟨_,rfl,cX.out⟩,bM.out⟩
def xW(b:List Nat):Nat×List Fd×List Nat×Nat :=
 match cY b with
 | .ok ((id,l),r)=>(id,l,r,0)
 | .error c=>(0,[],[],c)
theorem Ug{b b':List Nat}{id:Nat}{l:List Fd}(h:Rds cY b 0 (id,l) b' 0):xW b=(id,l,b',0):=by
 have e:=h.1 rfl;rw[if_pos rfl]at e;unfold xW;rw[e]
theorem GN{b b':List Nat}{f id:Nat}{l:List Fd}(h:Rds cY b 0 (id,l) b' f)(hf:f≠0):xW b=(0,[],[],f):=by
 have e:=h.1 rfl;rw[if_neg hf]at e;unfold xW;rw[e]
def Uh(w:World)(R:Nat×List Fd×List Nat×Nat)(e:Ending)(w':World):Prop :=
 (∃ v u,e=.returned (.tuple #[.agg #[.int .u32 (R.1:Int),v],u,.int .i64 (R.2.2.2:Int)])/\dR w' w.heap.size v R.2.1/\aC w' w.heap.size u R.2.2.1)/\Below w.heap.size w w'
def Shr{α : Type}(m:List Nat->Except Nat (α×List Nat)):Prop:=∀ b x r,m b=.ok (x,r)->r.length<=b.length
theorem Shr.bind{α β : Type}{m:List Nat->Except Nat (α×List Nat)}{k:α->List Nat->Except Nat (β×List Nat)}(h:Shr m)(hk:∀ x,Shr (k x)):Shr (aA m k):=by
 intro b y r e;cases hm:m b with
 | error c=>rw[cA hm]at e;cases e
 | ok q =>
  obtain⟨x,s⟩:=q;rw[cV hm]at e;exact ZZ (hk x s y r e) (h b x s hm)
theorem Shr.pure{α β : Type}(g:α->β)(x:α):Shr (fun r=>.ok (g x,r)):=by
 intro b y r e;cases e
 exact ZR _
theorem oC(room:Nat):Shr (ig room):=by
 intro b x r e;unfold ig at e;split at e
 ·cases e
 ·split at e
  ·cases e
  ·cases e
   rw[jai];omega
theorem LT(n:Nat):Shr (textR n):=by
 intro b x r e;unfold textR at e;split at e
 ·cases e
 ·cases e
  rw[jai];omega
theorem Ui:Shr tV:=(oC _).bind fun i=>((oC _).bind fun n=>LT n).bind fun s=>(oC _).bind fun k=>(oC _).bind fun n=>Shr.pure (fun _:Nat=>(i,s,k,decide (n=1))) 0
theorem D4:∀ n,Shr (kK n)
 | 0=>Shr.pure (fun _:Nat=>[]) 0
 | n+1=>(D4 n).bind fun l=>Ui.bind fun f=>Shr.pure (fun _:Nat=>l++[f]) 0
theorem GO:Shr cY :=
 ((oC _).bind fun i=>(oC _).bind fun n=>(D4 n).bind fun l=>Shr.pure (fun _:Nat=>(i,l)) 0).bind fun s=>by
  intro b x r e;simp only at e;split at e
  ·cases e;exact ZR _
  ·cases e
theorem Uj{b b1:List Nat}{F:Nat}{x:Nat×List Fd}(h:Rds cY b 0 x b1 F)(hF:F=0):b1.length<=b.length:=by
 have e:=h.1 rfl;rw[if_pos hF]at e;exact GO _ _ _ e
def Uns(w:World)(q:Nat)(W:World)(b:List Nat)(f id:Nat)(v:Value)(l:List Fd):Prop :=
 St 200 W (w.heap.size+1) b f/\w.heap.size+1<q/\W.heap[w.heap.size]?=some (.cells #[.int .u32 0,.slice none 0 0] 25 (0,0)) /\
 W.heap[q]?=some (.cells #[.int .u32 (id:Int),v] 25 (0,0))/\Below w.heap.size w W/\dR W (w.heap.size+2) v l
theorem Uns.size{w W:World}{q f id:Nat}{b:List Nat}{v:Value}{l:List Fd}(h:Uns w q W b f id v l):q<W.heap.size:=(Array.getElem?_eq_some_iff.1 h.2.2.2.1).1
theorem Uns.kept{w W W':World}{q f id:Nat}{b:List Nat}{v:Value}{l:List Fd}(h:Uns w q W b f id v l)(hb:Below W.heap.size W W'):Uns w q W' b f id v l:=by
 have hz:=h.size;obtain⟨h1,h2,h3,h4,h5,h6⟩:=h;exact⟨h1.kept hb h1.lt,h2,(hb.block _ (by omega)).trans h3,(hb.block _ (by omega)).trans h4,h5.trans (hb.mono h5.size),h6.kept hb⟩
theorem Uns.call{w W W':World}{q f f' id:Nat}{b b':List Nat}{v:Value}{l:List Fd}(h:Uns w q W b f id v l)(hs:St 200 W' (w.heap.size+1) b' f')(hf:Fr (w.heap.size+1) W.heap.size W W'):Uns w q W' b' f' id v l:=by
 have hz:=h.size;obtain⟨h1,h2,h3,h4,h5,h6⟩:=h;exact⟨hs,h2,(hf.block _ (by omega) (by omega)).trans h3,(hf.block _ (by omega) (by omega)).trans h4,h5.trans (hf.below (by omega) h5.size),Fr.own hf h6 (by omega)⟩
theorem Uns.facts{w W:World}{q f id:Nat}{b:List Nat}{v:Value}{l:List Fd}(h:Uns w q W b f id v l) :
  (W.cell? ⟨q,0,none⟩=some (.int .u32 (id:Int))/\W.cell? ⟨q,1,none⟩=some v) /\
  (W.cell? ⟨w.heap.size,0,none⟩=some (.int .u32 0)/\W.cell? ⟨w.heap.size,1,none⟩=some (.slice none 0 0)) /\
  (W.frozen? ⟨w.heap.size,0,none⟩=false/\W.frozen? ⟨w.heap.size,1,none⟩=false):=by
 obtain⟨h1,h2,h3,h4,h5⟩:=h;refine⟨⟨?_,?_⟩,⟨?_,?_⟩,⟨?_,?_⟩⟩<;>first | (rw[ax h4];rfl) | (rw[ax h3];rfl) | (simp[World.frozen?,h3];done)
theorem Uk{b b1:List Nat}{f1 i:Nat}{l:List Fd}(h:Rds Cc b 0 (i,l) b1 f1):Rds cY b 0 (i,l) b1 (orf f1 (chk i l)):=by
 unfold orf;by_cases hf:f1=0
 ·rw[if_pos hf];subst hf;exact D3 h
 ·rw[if_neg hf];exact h.bind (Rds.dead (i,l) hf)
theorem GP{w:World}{v:Value}{b:List Nat}(hs:Sv w v (aE .u8 b))(hb:Bs b)(hl:b.length<=90000000) :
  Calls Tryz.prog 96 #[v] w (Uh w (xW b)):=by
 obtain⟨a,cap,rfl,aX,bw⟩:=hs.form1;rw[ap]at *;have HS0:=ae (St.make (T:=200) hs hb (ak w (.cells #[.int .u32 0,.slice none 0 0] 25)));have ce:(w.alloc (.cells #[.int .u32 0,.slice none 0 0] 25)).heap.size=w.heap.size+1:=ZS _ _;have Zs:=ae ((ak (w.alloc (.cells #[.int .u32 0,.slice none 0 0] 25)) (.cells #[.slice a b.length cap,.int .i64 ((0:Nat):Int)] 200)).block w.heap.size (by omega) |>.trans (heap_alloc_new w _));have cC:=ae (((ak w (.cells #[.int .u32 0,.slice none 0 0] 25))).alloc (by omega) (.cells #[.slice a b.length cap,.int .i64 ((0:Nat):Int)] 200));rw[ce]at HS0;clear hs;have hzW:((w.alloc (.cells #[.int .u32 0,.slice none 0 0] 25)).alloc (.cells #[.slice a b.length cap,.int .i64 ((0:Nat):Int)] 200)).heap.size=w.heap.size+2:=by rw[ZS,ce]
 have HZW:=ae hzW;clear hzW;generalize hW:(w.alloc (.cells #[.int .u32 0,.slice none 0 0] 25)).alloc (.cells #[.slice a b.length cap,.int .i64 ((0:Nat):Int)] 200)=W at *;have hW':(w.alloc (.cells #[.int .u32 0,.slice none 0 0] 25)).alloc (.cells #[.slice a b.length cap,.int .i64 0] 200)=W:=hW;go_enter Tryz.func96,Tryz.ntmps96
 go_wp2_with fail;try rw[hW']
 clear hW hW' ce;refine(GM HS0.out).mono ?_;rintro e w3 ⟨id,l,v,b',f',rfl,fN,mR,zQ,jr,kX,V7,ix⟩;obtain⟨va,vcap,hv,_,_⟩:=aM fN;subst hv
 have Zm:Hid (Uns w w3.heap.size (w3.alloc (.cells #[.int .u32 (id:Int),.slice va l.length vcap] 25)) b' f' id (.slice va l.length vcap) l):=by
  have hz:=HZW.out;have iB:=ix.size;have aP:=ak w3 (.cells #[.int .u32 (id:Int),.slice va l.length vcap] 25);refine ae ⟨kX.kept aP kX.lt,by omega,(aP.block _ (by omega)).trans ((ix.block _ (by omega) (by omega)).trans Zs.out),heap_alloc_new w3 _,(cC.out.trans (ix.below (by omega) (by omega))).trans (aP.mono (by omega)),?_⟩;rw[hz]at fN;exact fN.kept aP
 have rM:=ae (Uk V7);have Wg:=ae mR;clear fN kX V7 ix jr mR;obtain⟨⟨c0,c1⟩,⟨d0,d1⟩,⟨z0,z1⟩⟩:=Zm.out.facts;have HQL:Hid (w3.heap.size<(w3.alloc (.cells #[.int .u32 (id:Int),.slice va l.length vcap] 25)).heap.size):=ae (by rw[ZS];omega);go_wp2_with fail;generalize hq:w3.heap.size=q at *;generalize hX:w3.alloc (.cells #[.int .u32 (id:Int),.slice va l.length vcap] 25)=X at *;try rw[hX]
 clear hX hq;refine(zm Zm.out.2.2.2.2.2.sf id).mono ?_;rintro e w5 ⟨rfl,bq⟩;have HU5:=ae (Zm.out.kept bq);clear bq;go_wp2_with fail;refine(mA HU5.out.1 (chk id l)).mono ?_;rintro e w6 ⟨rfl,yf,MV⟩;have YA:=ae (HU5.out.call yf MV);clear yf MV c0 c1 d0 d1 z0 z1 HU5 Zm;generalize orf f' (chk id l)=F at *;obtain⟨⟨c0,c1⟩,⟨d0,d1⟩,⟨z0,z1⟩⟩:=YA.out.facts;obtain⟨ra,rcap,r0,r1,r2,r3,r4,r5,r6,_,_⟩:=YA.out.1.cells2;have zL:=ae r6;have HQ:=ae YA.out.2.1;have Yw:¬ w.heap.size=w.heap.size+1:=by omega
 have yk:¬ w.heap.size+1=w.heap.size:=by omega
 have hne3:¬ w.heap.size=q:=by have:=HQ.out;omega
 have Ye:¬ q=w.heap.size:=by have:=HQ.out;omega
 clear r6 r4 r5;by_cases hF:F=0
 ·have hFa:((F:Int) != 0)=false:=by simp[hF]
  have Mm:Hid (b'.length<=100000000):=ae (by have:=Uj rM.out hF;omega)
  have HOKR:Hid (xW b=(id,l,b',0)):=by
   have h:=rM.out;rw[hF]at h;exact ae (Ug h)
  clear hF
  have pe:Hid (∀ m,Calls Tryz.prog 93 #[.slice ra b'.length rcap] (w6.drewN m) fun e w'=>∃ u,e=.returned u/\aC w' (w.heap.size+1) u b'/\Uns w q w' b' F id (.slice va l.length vcap) l/\(w'.cell? ⟨q,0,none⟩=some (.int .u32 (id:Int))/\w'.cell? ⟨q,1,none⟩=some (.slice va l.length vcap))/\(w'.frozen? ⟨w.heap.size,0,none⟩=false/\w'.frozen? ⟨w.heap.size,1,none⟩=false)/\(w'.cell? ⟨w.heap.size,0,none⟩=some (.int .u32 0)/\w'.cell? ⟨w.heap.size,1,none⟩=some (.slice none 0 0))/\w'.cell? ⟨w.heap.size+1,0,none⟩=some (.slice ra b'.length rcap)):=ae (fun m=>by
   have mZ:Below w6.heap.size w6 (w6.drewN m):=below_drewN (ZQ w6.heap.size w6) m;refine(LS (zL.out.kept mZ) Mm.out).mono ?_;rintro e w' ⟨⟨u,rfl,ou⟩,hb'⟩;have aD:=ai mZ hb';have hu:=YA.out.kept aD;obtain⟨e0,e1,e2⟩:=hu.facts;refine⟨u,rfl,?_,hu,e0,e2,e1,(aD.cell (p:=⟨w.heap.size+1,0,none⟩) YA.out.1.lt).trans r0⟩;have hz:w.heap.size+1<=(w6.drewN m).heap.size:=ZZ (jac YA.out.1.lt) mZ.size;exact aZ ou hz)
  go_wp2_with fail
  go_region_held3 (fun w'=>w'.cell? ⟨q,0,none⟩=some (.int .u32 (id:Int))/\w'.cell? ⟨q,1,none⟩=some (.slice va l.length vcap)/\w'.cell? ⟨w.heap.size+1,0,none⟩=some (.slice ra b'.length rcap)) (first | assumption | go_keep) (first
   | (go_at_call 93;refine(pe.out _).mono ?_;rintro e w7 ⟨u7,rfl,o7,hu7,⟨g0,g1⟩,⟨g2,g3⟩,⟨g4,g5⟩,g6⟩;have iw:=ae o7;have HU7:=ae hu7;clear o7 hu7))
  go_wp2_with fail;refine bodyPost_ret (v:=.tuple #[.agg #[.int .u32 (id:Int),.slice va l.length vcap],u7,.int .i64 ((0:Nat):Int)]) (by simp[results,Tryz.results96,go_sem,g4,g5]) rfl ?_;rw[HOKR.out];refine⟨⟨_,_,rfl,(Dm HU7.out.2.2.2.2.2 (by omega) _ _).low (by omega),?_⟩,pP HU7.out.2.2.2.2.1 (ZR _) _ _⟩;exact aZ (Fr.own (((Fr.refl w.heap.size w7.heap.size w7).set 0 _).set 1 _) iw.out (by omega)) (by omega)
 ·have hFa:((F:Int) != 0)=true:=by simp[hF]
  have HER:=ae (GN rM.out hF);clear hF;go_wp2_with fail;go_region
  go_wp2_with fail;refine bodyPost_ret (v:=.tuple #[.agg #[.int .u32 ((0:Nat):Int),.slice none 0 0],.slice none 0 0,.int .i64 (F:Int)]) (by simp[results,Tryz.results96,go_sem,d0,d1]) rfl ?_;rw[HER.out];exact⟨⟨_,_,rfl,dR.nil _ _,aC.nil _ _⟩,(pP YA.out.2.2.2.2.1 (ZR _) _ _).drew⟩
theorem wU{b:List Nat}(h:spl b=none):iI b=none:=by
 unfold spl at h;unfold iI;split
 ·rfl
 ·next h4 =>
  rw[if_neg h4]at h;split
  ·rfl
  ·next h5 =>
   rw[if_neg h5]at h;cases h
theorem LU{b c f:List Nat}(h:spl b=some (c,f)):iI b=match cY f with
  | .error _=>none
  | .ok ((id,fs),r)=>if (gV fs c r).2.2.2=true then none else some (id,fs,fY 1 64 (dC r),(gV fs c r).1):=by
 unfold spl at h;unfold iI;split
 ·next h4 =>
  rw[if_pos h4]at h;cases h
 ·next h4 =>
  rw[if_neg h4]at h;split
  ·next h5 =>
   rw[if_pos h5]at h;cases h
  ·next h5 =>
   rw[if_neg h5]at h;simp only[Option.some.injEq,Prod.mk.injEq]at h;obtain⟨rfl,rfl⟩:=h;rfl
theorem Xp{b c f:List Nat}(h:spl b=some (c,f))(h8:Bs b):Bs c/\Bs f/\c.length<=b.length/\f.length<=b.length:=by
 unfold spl at h;split at h
 ·cases h
 ·split at h
  ·cases h
  ·simp only[Option.some.injEq,Prod.mk.injEq]at h
   obtain⟨rfl,rfl⟩:=h;refine⟨h8.take _,(h8.take _).drop _,by rw[ZX];omega,by rw[jai,ZX];omega⟩
def NeR{α : Type}(m:List Nat->Except Nat (α×List Nat)):Prop:=∀ b c,m b=.error c->c≠0
theorem NeR.bind{α β : Type}{m:List Nat->Except Nat (α×List Nat)}{k:α->List Nat->Except Nat (β×List Nat)}(h:NeR m)(hk:∀ x,NeR (k x)):NeR (aA m k):=by
 intro b c e;cases hm:m b with
 | error d =>
  rw[cA hm]at e;cases e
  exact h b _ hm
 | ok q =>
  obtain⟨x,s⟩:=q;rw[cV hm]at e;exact hk x s c e
theorem NeR.num(n:Nat):NeR (ig n):=by
 intro b c e;unfold ig at e;split at e
 ·next h=>cases e;exact h
 ·split at e
  ·cases e;decide
  ·cases e
theorem NeR.textR(n:Nat):NeR (textR n):=by
 intro b c e;unfold Go.Proofs.YtpljdjmpamjkhaaGreatDoor.textR at e;split at e
 ·cases e;decide
 ·cases e
theorem NeR.fld:NeR tV:=(NeR.num _).bind fun i=>((NeR.num _).bind fun n=>NeR.textR n).bind fun s=>(NeR.num _).bind fun k=>(NeR.num _).bind fun n=>fun b c e=>by cases e
theorem NeR.flds:∀ n,NeR (kK n)
 | 0=>fun b c e=>by cases e
 | n+1=>(NeR.flds n).bind fun l=>NeR.fld.bind fun f=>fun b c e=>by cases e
theorem GQ:NeR cY :=
 ((NeR.num _).bind fun i=>(NeR.num _).bind fun n=>(NeR.flds n).bind fun l=>fun b c e=>by cases e).bind fun s=>by
  intro b c e;simp only at e;split at e
  ·cases e
  ·next h=>cases e;exact h
def BsR{α : Type}(m:List Nat->Except Nat (α×List Nat)):Prop:=∀ b x r,m b=.ok (x,r)->Bs b->Bs r
theorem BsR.bind{α β : Type}{m:List Nat->Except Nat (α×List Nat)}{k:α->List Nat->Except Nat (β×List Nat)}(h:BsR m)(hk:∀ x,BsR (k x)):BsR (aA m k):=by
 intro b y r e hb;cases hm:m b with
 | error c=>rw[cA hm]at e;cases e
 | ok q =>
  obtain⟨x,s⟩:=q;rw[cV hm]at e;exact hk x s y r e (h b x s hm hb)
theorem BsR.pure{α : Type}(x:α):BsR (fun b=>.ok (x,b)):=fun b y r e hb=>by cases e;exact hb
theorem BsR.num(n:Nat):BsR (ig n):=by
 intro b x r e hb;unfold ig at e;split at e
 ·cases e
 ·split at e
  ·cases e
  ·cases e;exact hb.drop _
theorem BsR.textR(n:Nat):BsR (textR n):=by
 intro b x r e hb;unfold Go.Proofs.YtpljdjmpamjkhaaGreatDoor.textR at e;split at e
 ·cases e
 ·cases e;exact hb.drop _
theorem BsR.fld:BsR tV:=(BsR.num _).bind fun i=>((BsR.num _).bind fun n=>BsR.textR n).bind fun s=>(BsR.num _).bind fun k=>(BsR.num _).bind fun n=>BsR.pure _
theorem BsR.flds:∀ n,BsR (kK n)
 | 0=>BsR.pure _
 | n+1=>(BsR.flds n).bind fun l=>BsR.fld.bind fun f=>BsR.pure _
theorem GR:BsR cY :=
 ((BsR.num _).bind fun i=>(BsR.num _).bind fun n=>(BsR.flds n).bind fun l=>BsR.pure _).bind fun s=>by
  intro b x r e hb;simp only at e;split at e
  ·cases e;exact hb
  ·cases e
theorem GS(f:List Nat):(∃ c,cY f=.error c/\c≠0/\xW f=(0,[],[],c))∨∃ id fs r,cY f=.ok ((id,fs),r)/\xW f=(id,fs,r,0):=by
 unfold xW;cases h:cY f with
 | error c=>exact .inl ⟨c,rfl,GQ f c h,rfl⟩
 | ok q =>
  obtain⟨⟨id,fs⟩,r⟩:=q;exact .inr ⟨id,fs,r,rfl,rfl⟩
theorem GT{w:World}{v:Value}{b:List Nat}(hs:Sv w v (aE .u8 b))(h8:Bs b)(hl:b.length<=80000000)(hw:nE w.heap.size v) :
  Calls Tryz.prog 53 #[v] w fun e w'=>((iI b=none/\∃ fp g,e=.returned (.tuple #[.pointer fp,.int .i64 g,.bool false])) ∨
   ∃ id fs g gs fp fv,iI b=some (id,fs,g,gs)/\e=.returned (.tuple #[.pointer (some ⟨fp,0,none⟩),.int .i64 ((g:Nat):Int),.bool true])/\Fil w' w.heap.size fp id fv gs/\dR w' w.heap.size fv fs)/\Below w.heap.size w w':=by
 have ZE:=ae (LK hs h8 (by omega) hw);obtain⟨va,vc,rfl,_,_⟩:=hs.form1;rw[ap]at *;cases hsp:spl b with
 | none =>
  have HN:=ae (wU hsp);rw[hsp]at ZE;clear hs h8 hsp;go_enter Tryz.func53,Tryz.ntmps53
  go_wp2_with fail;refine ZE.out.mono ?_;rintro e w1 ⟨⟨v1,v2,rfl,_⟩,aG⟩;have aQ:=ae aG;clear aG;go_wp2_with fail;go_ret3
  exact⟨.inl ⟨HN.out,_,_,rfl⟩,aQ.out⟩
 | some cf =>
  obtain⟨c,f⟩:=cf;have pn:=ae (LU hsp);obtain⟨q1,q2,q3,q4⟩:=Xp hsp h8;rw[hsp]at ZE;have HC:=ae (GS f);have HQ1:=ae q1;have HQ2:=ae q2;have Mx:=ae (fun(U:World) (v2:Value) (hU:Sv U v2 (aE .u8 f))=>GP hU q2 (by omega));generalize xW f=R at *;obtain⟨R1,R2,R3',R4⟩:=R;clear hs h8 hsp q1 q2;go_enter Tryz.func53,Tryz.ntmps53
  go_wp2_with fail;refine ZE.out.mono ?_;rintro e w1 ⟨⟨v1,v2,rfl,ib⟩,aG⟩;obtain⟨s1,s2,s3,s4⟩:=ib c f rfl;have aQ:=ae aG;have iM:=ae s1;have zO:=ae s3;have HU2:=ae (Mx.out w1 v2 s2);clear aG ib s1 s2 s3 s4 Mx;go_wp2_with fail;refine HU2.out.mono ?_;rintro e w2 ⟨⟨fv,u,rfl,Na,hou⟩,aD⟩;have hB2:=ai aQ.out aD;obtain⟨a1,k1,e1,_,_⟩:=iM.out.form1;obtain⟨a2,k2,e2,_,_⟩:=hou.sv.form1;obtain⟨a3,k3,e3,_,_⟩:=Na.sf.form;rw[ap]at e1 e2;subst e1 e2 e3;simp only at *;rcases HC.out with ⟨er,U0,hu2,VC⟩ | ⟨id,fs,r,U0,VC⟩
  ·have HN:Hid (iI b=none):=ae (by rw[pn.out,U0])
   obtain⟨rfl,rfl,rfl,rfl⟩:R1=0/\R2=[]/\R3'=[]/\R4=er:=by simpa using VC
   have fO:((R4:Int) != 0)=true:=by
    have:(R4:Int)≠0:=by omega
    simpa using this
   have aN:=ae hB2;clear U0 hu2 VC Na hou aD hB2 pn HC;go_wp2_with fail;go_ret3
   exact⟨.inl ⟨HN.out,_,_,rfl⟩,ai aN.out (ak _ _)⟩
  ·obtain⟨rfl,rfl,rfl,rfl⟩:R1=id/\R2=fs/\R3'=r/\R4=0:=by simpa using VC
   have hBr:=GR f _ _ U0 HQ2.out;obtain⟨ML,_,_⟩:=tI U0;have UO:=ae (gW ML);obtain⟨_,_,XP,_⟩:=qf ML;have HE:Hid (iI b=if (gV R2 c R3').2.2.2=true then none else some (R1,R2,fY 1 64 (dC R3'),(gV R2 c R3').1)):=ae (by rw[pn.out,U0]);have hbA:=ak w2 (.cells #[.int .u32 (R1:Int),.slice a3 R2.length k3] 25);have hbB:=ak (w2.alloc (.cells #[.int .u32 (R1:Int),.slice a3 R2.length k3] 25)) (.cells #[.slice a1 c.length k1,.slice a2 R3'.length k2,.bool false] 157);have hAB:=ai hbA hbB;have sA:(w2.alloc (.cells #[.int .u32 (R1:Int),.slice a3 R2.length k3] 25)).heap.size=w2.heap.size+1:=ZS _ _;have hx:=heap_alloc_new (w2.alloc (.cells #[.int .u32 (R1:Int),.slice a3 R2.length k3] 25)) (.cells #[.slice a1 c.length k1,.slice a2 R3'.length k2,.bool false] 157);rw[sA]at hx;have hw12:w.heap.size<=w2.heap.size:=hB2.size;have hfb:∀ i,(Value.slice a3 R2.length k3).ownBlock=some i->i<w2.heap.size+1:=fun i hi=>by have:=(aL Na hi).2.1;omega
   have hR3:R3 ((w2.alloc (.cells #[.int .u32 (R1:Int),.slice a3 R2.length k3] 25)).alloc (.cells #[.slice a1 c.length k1,.slice a2 R3'.length k2,.bool false] 157)) (w2.heap.size+1) c R3' false :=
    ⟨a1,k1,a2,k2,hx,⟨(iM.out.kept aD).kept hAB,fun i hi=>by have:=zO.out i hi;omega,HQ1.out⟩,hou.sv.kept hAB,fun i hi=>by have:=(aL hou hi).2.1;omega,hBr⟩
   have Mv:=ae (GI hR3 (Na.sf.kept hAB) hfb UO.out R1 XP (by omega));have m9:=ae (ai hB2 hAB);have xl:=ae (Na.kept hAB);have S4:=ae hfb;have SX:=ae hw12;have lr:Hid (((w2.alloc (.cells #[.int .u32 (R1:Int),.slice a3 R2.length k3] 25)).alloc (.cells #[.slice a1 c.length k1,.slice a2 R3'.length k2,.bool false] 157)).heap.size=w2.heap.size+2):=ae (by rw[ZS,ZS]);have HS01:=ae aQ.out.size;clear U0 VC Na hou aD hB2 pn HC hBr ML hbA hbB hAB sA hx hR3 hfb;go_wp2_with fail;generalize (w2.alloc (.cells #[.int .u32 (R1:Int),.slice a3 R2.length k3] 25)).alloc (.cells #[.slice a1 c.length k1,.slice a2 R3'.length k2,.bool false] 157)=W4 at *;refine Mv.out.mono ?_;rintro e w4 ⟨fp,rfl,⟨c',f',V8⟩,uy,pj⟩;have xo:Hid (Below w.heap.size w w4):=ae (m9.out.trans (pj.below (by omega) (by have:=lr.out;omega)))
   have UL:Hid (dR w4 w.heap.size (.slice a3 R2.length k3) R2):=ae (by
    have h1:dR w4 w1.heap.size (.slice a3 R2.length k3) R2:=bX xl.out fun k hk=>pj.block k (by have:=S4.out k hk;have:=lr.out;omega) (by have:=S4.out k hk;omega)
    exact⟨h1.1,h1.2.imp (fun x=>x) fun⟨g,cap,cur,hv,hb,r⟩=>⟨g,cap,cur,hv,ZZ HS01.out hb,r⟩⟩)
   have J2:Hid ((gV R2 c R3').2.2.2=false->Fil w4 w.heap.size fp R1 (.slice a3 R2.length k3) (gV R2 c R3').1):=ae (fun h=>(uy h).low (by have:=lr.out;omega));obtain⟨_,_,_,_,⟨_,_,r2⟩,⟨_,_,r3⟩,_,_⟩:=V8.cells;clear V8 uy pj;cases hF:(gV R2 c R3').2.2.2
   ·rw[hF]at r2 HE J2
    have HFL2:=ae (J2.out rfl);have HE2:Hid (iI b=some (R1,R2,fY 1 64 (dC R3'),(gV R2 c R3').1)):=ae (by rw[HE.out,if_neg (by decide)]);clear hF HE J2;go_wp2_with fail;go_quiet (fail)
    go_wp2_with fail;go_ret3
    exact⟨.inr ⟨_,_,_,_,_,_,HE2.out,rfl,HFL2.out.kept (below_drewN (ZQ _ _) _),UL.out.kept (below_drewN (ZQ _ _) _)⟩,below_drewN xo.out _⟩
   ·rw[hF]at r2 HE
    have HE2:Hid (iI b=none):=ae (by rw[HE.out,if_pos rfl]);clear hF HE J2;go_wp2_with fail;go_quiet (fail)
    go_wp2_with fail;go_ret3
    exact⟨.inl ⟨HE2.out,_,_,rfl⟩,below_drewN xo.out _⟩
theorem Gro.rows{W:World}{B:Nat}{a b:Value}{rows:List Row}{sts:List Stt}(h:Gro W B (.agg #[a,b]) rows sts) :
  ∃ R,a=.slice (some ⟨R,0,none⟩) rows.length rows.length/\B<=R/\R<W.heap.size/\(∃ va vn vc,b=.slice va vn vc)/\∀ i (h:i<rows.length),∃ rv,W.cell? ⟨R,i,none⟩=some rv/\OwnV W B rv rows[i]:=by
 obtain⟨R,rvs,vs,e,h1,h2,h3⟩:=h;simp only[Value.agg.injEq,Array.mk.injEq,List.cons.injEq,and_true]at e;obtain⟨rfl,rfl⟩:=e;obtain⟨b1,b2,_⟩:=aL h1 (k:=R) rfl;refine⟨R,rfl,b1,b2,eN h3,fun i hi=>?_⟩;obtain⟨rv,e1,e2⟩:=h2 i hi;obtain⟨g,e,_,_,hc⟩:=gX h1 e1;cases e
 exact⟨rv,hc,e2⟩
theorem lZ{gs:List Gr}{j:Nat}(h:j<gs.length):bP (gs.take (j+1))=bP (gs.take j)++gs[j].1:=by
 unfold bP;rw[Z5 h,Z8,jbk];simp
theorem D5{gs:List Gr}{j:Nat}(h:j<gs.length){r:Row}(hr:r∈gs[j].1):r∈bP gs:=by
 unfold bP;exact List.mem_flatten.2 ⟨gs[j].1,jaa.2 ⟨gs[j],ZV h,rfl⟩,hr⟩
theorem eZ(gs:List Gr)(j:Nat):(bP (gs.take j)).length<=(bP gs).length:=by
 have:bP gs=bP (gs.take j)++bP (gs.drop j):=by
  unfold bP;rw[← jbk,← Z8,ja5]
 rw[this,ZT];omega
theorem zz{w:World}{B fp id:Nat}{fv:Value}{gs:List Gr}(h:Fil w B fp id fv gs)(bQ:∀ r∈bP gs,r.length<=1000)(BE:(bP gs).length<=100000) :
  Calls Tryz.prog 23 #[.pointer (some ⟨fp,0,none⟩)] w fun e w'=>(∃ v l,e=.returned v/\Ow w' w.heap.size v l/\l.map Prod.snd=bP gs)/\Below w.heap.size w w':=by
 obtain⟨gv,xs,h1,h2,h3,h4⟩:=h;obtain⟨ga,gc,rfl,hgc,hgm⟩:=bF h3;have c2:w.cell? ⟨fp,2,none⟩=some (.slice ga gs.length gc):=by rw[ax h1];rfl
 have HG:Hid (∀ k (hk:k<gs.length),∃ G R va vn vc,ga=some ⟨G,0,none⟩/\gs[k].1.length<=100000/\∀ W,Below w.heap.size w W->W.cell? ⟨G,k*2,none⟩=some (.slice (some ⟨R,0,none⟩) gs[k].1.length gs[k].1.length)/\W.cell? ⟨G,k*2+1,none⟩=some (.slice va vn vc) /\
   ∀ i (h:i<gs[k].1.length),∃ ra rc,W.cell? ⟨R,i,none⟩=some (.slice ra gs[k].1[i].length rc)/\gs[k].1[i].length<=1000/\Sv W (.slice ra gs[k].1[i].length rc) (aI gs[k].1[i])):=ae (fun k hk=>by
  obtain⟨a,b,e1,e2,e3⟩:=h4 k hk;obtain⟨R,rfl,g1,g2,⟨va,vn,vc,rfl⟩,g4⟩:=e3.rows;obtain⟨G,rfl,_,hG,lp⟩:=gX h3 e1;obtain⟨_,e,_,_,kx⟩:=gX h3 e2;cases e
  have hr:=lZ hk;have Bq:=eZ gs (k+1);rw[hr,ZT]at Bq;refine⟨G,R,va,vn,vc,rfl,by omega,fun W hb=>⟨(hb.cell (p:=⟨G,k*2,none⟩) hG).trans (by rw[jak];exact lp),(hb.cell (p:=⟨G,k*2+1,none⟩) hG).trans (by rw[jak k];exact kx),fun i hi=>?_⟩⟩;obtain⟨rv,f1,f2⟩:=g4 i hi;have fs:=f2.sv;obtain⟨ra,rc,rfl,_,_⟩:=fs.form1;rw[aF]at *;exact⟨ra,rc,(hb.cell (p:=⟨R,i,none⟩) g2).trans f1,bQ _ (D5 hk (ZV hi)),fs.kept hb⟩)
 have HT:=ae (fun j=>eZ gs j);have rx:=ae (fun j (h:j<gs.length)=>lZ h);have HTA:Hid (bP (gs.take gs.length)=bP gs):=ae (by rw[ZY]);have HT0:Hid (bP (gs.take 0)=[]):=ae rfl;have MM:=ae BE;clear h1 h2 h3 h4 bQ BE;go_enter Tryz.func23,Tryz.ntmps23
 go_wp2_with fail;go_loopw [3,13] (fun a i wr=>∃(k:Nat) (l:List (Value×Row)),i=.int .i64 (k:Int)/\k<=gs.length/\Ow wr w.heap.size a l/\l.map Prod.snd=bP (gs.take k)/\Below w.heap.size w wr) (fun _ i _=>gs.length-(intOf i).toNat)
 case atStart=>exact⟨0,[],rfl,by omega,Ow.nil _ _,HT0.out.symm,ZQ _ _⟩
 case round =>
  obtain⟨k,l,rfl,hk,how,uJ,ay⟩:=hrel;have HB:=ae ay;have HO:=ae how;have sY:=ae uJ;obtain⟨la,lc,rfl,VM,Bo,_⟩:=how.form;clear ay how uJ;by_cases aB:k<gs.length
  ·obtain⟨G,R,va,vn,vc,rfl,UZ,hcells⟩:=HG.out k aB
   obtain⟨ca,cb,_⟩:=hcells wr HB.out;have HC:=ae hcells;have hlt':(k:Int)<(gs.length:Int):=by omega
   have hBW:Below w.heap.size w (wr.alloc (.cells #[.slice (some ⟨R,0,none⟩) gs[k].1.length gs[k].1.length,.slice va vn vc] 109)):=HB.out.alloc HB.out.size _;have m9:=ae hBW;obtain⟨cg,_⟩:=bE wr (.slice (some ⟨R,0,none⟩) gs[k].1.length gs[k].1.length) (.slice va vn vc) 109;have HCG:=ae cg;have hOW:=(HO.out.kept (ak wr (.cells #[.slice (some ⟨R,0,none⟩) gs[k].1.length gs[k].1.length,.slice va vn vc] 109)));have R6:=ae hOW;have U3:=ae (rx.out k aB);have HKL:=ae (HT.out (k+1));clear hcells hBW hOW cg;go_wp2_with fail;generalize wr.alloc (.cells #[.slice (some ⟨R,0,none⟩) gs[k].1.length gs[k].1.length,.slice va vn vc] 109)=WA at *
   have ZJ:Hid (∀ m,(bP (gs.take k)++gs[k].1.take m).length<=100000):=ae (fun m=>by
    have h1:=U3.out;have h2:=HKL.out;have h3:=MM.out;rw[h1,ZT]at h2;rw[ZT,ZX];omega)
   clear HO ca cb;go_loopw [3,20] (fun a i wx=>∃(m:Nat) (l2:List (Value×Row)),i=.int .i64 (m:Int)/\m<=gs[k].1.length/\Ow wx w.heap.size a l2/\l2.map Prod.snd=bP (gs.take k)++gs[k].1.take m/\Below w.heap.size w wx) (fun _ i _=>gs[k].1.length-(intOf i).toNat)
   case atStart=>exact⟨0,l,rfl,by omega,R6.out,by rw[ja7,Z7];exact sY.out,m9.out⟩
   case round =>
    obtain⟨m,l2,rfl,hm,YB,YC,nN⟩:=hrel;have aN:=ae nN;have dr:=ae YB;have EG:=ae YC;obtain⟨la2,lc2,rfl,hl12,hl22,_⟩:=YB.form;have bm:=nN.size
    have hl2n:l2.length<=100000:=by
     have h1:=congrArg List.length YC;have h2:=ZJ.out m;rw[ZU]at h1;omega
    clear nN YB YC;by_cases hmt:m<gs[k].1.length
    ·have hmt':(m:Int)<(gs[k].1.length:Int):=by omega
     obtain⟨_,_,hcr⟩:=HC.out _ aN.out;obtain⟨ra,rc,hrc,ph,V1⟩:=hcr m hmt;have ru:Hid (gs[k].1.take (m+1)=gs[k].1.take m++[gs[k].1[m]]):=ae (Z5 hmt);have pe:=ae (pK V1 ph);generalize gs[k].1[m]=r at *;clear hcr V1;go_wp2_with fail;refine pe.out.mono ?_;rintro e w3 ⟨⟨v3,rfl,fN⟩,aP⟩;have HV3:=ae fN;have cX:=ae (dr.out.kept aP);have bM:=ae (aN.out.trans (aP.mono bm));have iB:=aP.size;obtain⟨ra',rc',rfl,_,_⟩:=bF fN;have mP:=ae (aK w3 (.slice ra' r.length rc') 79);clear aP fN pe dr;go_wp2_with (first | (at_builtin;refine jB rfl _ _ rfl w.heap.size _ _ l2 [(.slice ra' r.length rc',r)] rfl (cX.out.kept (ak _ _)) rfl (A1 mP.out (by rw[ZS];omega)) ?c1 ?c2 ?c3 ?_))
     case c1 =>
      intro x hx;rw[jay.1 hx];exact(HV3.out.kept (ak _ _)).of_le (by omega)
     case c2=>simp only[jan];omega
     case c3=>rw[ZS];omega
     intro v' w5 o5 b5;have dH:=ae o5;have aR:=ae ((bM.out.alloc (by omega) _).trans b5);clear o5 b5;go_wp2_with fail;go_roundw
     case rel=>exact⟨m+1,_,by go_num,by omega,dH.out,by rw[ru.out,Z8,EG.out,Z4];rfl,aR.out⟩
     case measure=>simp[intOf];omega
    ·obtain rfl:m=gs[k].1.length:=by omega
     have gJ:¬ ((gs[k].1.length:Nat):Int)<(gs[k].1.length:Int):=by omega
     have U4:Hid (l2.map Prod.snd=bP (gs.take (k+1))):=ae (by rw[U3.out,EG.out,ZY]);go_wp2_with fail;go_roundw
     case rel=>exact⟨k+1,l2,by go_num,by omega,dr.out,U4.out,aN.out⟩
     case measure=>simp[intOf];omega
  ·obtain rfl:k=gs.length:=by omega
   have gJ:¬ ((gs.length:Nat):Int)<(gs.length:Int):=by omega
   have U4:Hid (l.map Prod.snd=bP gs):=ae (sY.out.trans HTA.out);go_wp2_with fail;go_ret
   first | exact⟨⟨_,_,rfl,HO.out,U4.out⟩,HB.out⟩ | exact⟨⟨_,rfl,_,HO.out,U4.out⟩,HB.out⟩
theorem A6{w:World}{B fp id:Nat}{fv:Value}{gs:List Gr}(h:Fil w B fp id fv gs) :
  Calls Tryz.prog 21 #[.pointer (some ⟨fp,0,none⟩)] w fun e w'=>e=.returned (.int .i64 (gs.length:Int))/\w'=w:=by
 obtain⟨gv,xs,h1,h2,h3,h4⟩:=h
 have hgv:∃ ga gc,gv=.slice ga gs.length gc:=by
  rcases h3.2 with ⟨e,e2⟩ | ⟨_,_,_,e,_⟩
  ·rw[e2];exact⟨_,_,e⟩
  ·exact⟨_,_,e⟩
 obtain⟨ga,gc,rfl⟩:=hgv;have c2:w.cell? ⟨fp,2,none⟩=some (.slice ga gs.length gc):=by rw[ax h1];rfl
 clear h1 h2 h3 h4;go_enter Tryz.func21,Tryz.ntmps21
 go_wp2_with fail;go_ret
 exact⟨rfl,rfl⟩
end Go.Proofs.YtpljdjmpamjkhaaGreatDoor
