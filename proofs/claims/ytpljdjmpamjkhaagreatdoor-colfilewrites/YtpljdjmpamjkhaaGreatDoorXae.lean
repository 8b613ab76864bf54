import Derived.Test.YtpljdjmpamjkhaaGreatDoorXad
set_option linter.unusedVariables false
set_option linter.unusedSimpArgs false
set_option maxRecDepth 100000
set_option maxHeartbeats 2000000
namespace Go.Proofs.YtpljdjmpamjkhaaGreatDoor
open Go Go.Lib
def iq(f:Fd):List Nat:=uv f.1++uv f.2.1.size++da f.2.1++uv f.2.2.1++uv (eU f.2.2.2)
def gV(l:List Fd):List Nat:=l.flatMap iq
def dF(id:Nat)(l:List Fd):List Nat:=uv id++uv l.length++gV l
theorem mB{l:List Fd}{i:Nat}(h:i<l.length):gV (l.take (i+1))=gV (l.take i)++iq l[i]:=by
 unfold gV;rw[jdM h,jeH];simp
theorem yU{f:Fd}(h:Okf f)(hs:f.2.1.size<18446744073709551616):(iq f).length<=40+f.2.1.size:=by
 unfold iq;have h1:=bM (n:=f.1) (by have:=h.1;omega);have h2:=bM (n:=f.2.1.size) hs;have h3:=bM (n:=f.2.2.1) (by have:=h.2;omega);have h4:=bM (n:=eU f.2.2.2) (by unfold eU;split<;>omega);simp only[jdy,iQ];omega
theorem Mo{l:List Fd}(h:∀ f∈l,Okf f)(hs:szs l<5000):(gV l).length<=40*l.length+szs l:=by
 induction l with
 | nil=>simp[gV]
 | cons f t ih =>
  have hz:szs (f::t)=f.2.1.size+szs t:=by simp[szs]
  have:=ih (fun g hg=>h g (by simp[hg])) (by omega);have h2:=yU (h f (by simp)) (by omega);unfold gV at *;rw[jeQ,jdy,jdD,hz];omega
def ir(room:Nat)(b:List Nat):Except Nat (Nat×List Nat) :=
 if (gt b).2.2≠0 then .error (gt b).2.2 else if room<(gt b).1 then .error 40 else .ok ((gt b).1,b.drop (gt b).2.1)
def QZ(room:Nat):List Nat->Except Nat (ByteArray×List Nat):=aC (ir room) textR
def uo:List Nat->Except Nat (Fd×List Nat) :=
 aC (ir 4294967295) fun i=>aC (QZ 16) fun s=>aC (ir 255) fun k=>aC (ir 1) fun n r=>.ok ((i,s,k,decide (n=1)),r)
def kU:Nat->List Nat->Except Nat (List Fd×List Nat)
 | 0=>fun b=>.ok ([],b)
 | n+1=>aC (kU n) fun l=>aC uo fun f r=>.ok (l++[f],r)
def CL:List Nat->Except Nat ((Nat×List Fd)×List Nat) :=
 aC (ir 4294967295) fun i=>aC (ir 8) fun n=>aC (kU n) fun l r=>.ok ((i,l),r)
def db(b:List Nat):Except Nat ((Nat×List Fd)×List Nat) :=
 aC CL (fun s r=>if chk s.1 s.2=0 then .ok (s,r) else .error (chk s.1 s.2)) b
theorem Rds.bind{α β : Type}{m:List Nat->Except Nat (α×List Nat)}{k:α->List Nat->Except Nat (β×List Nat)}{l l1 l2:List Nat}{f f1 f2:Nat}{x:α}{y:β}
  (h1:Rds m l f x l1 f1) (h2:Rds (k x) l1 f1 y l2 f2):Rds (aC m k) l f y l2 f2:=by
 refine⟨fun h0=>?_,fun h0=>?_⟩
 ·have e1:=h1.1 h0
  by_cases hf:f1=0
  ·rw[jdu hf]at e1
   rw[cZ e1];exact h2.1 hf
  ·rw[jdt hf]at e1
   rw[cE e1,h2.2 hf,jdt hf]
 ·have e1:=h1.2 h0
  rw[h2.2 (by omega),e1]
theorem AD{room:Nat}{l:List Nat}{f:Nat}:Rds (ir room) l f (if (gt l).2.2≠0∨room<(gt l).1 then 0 else (gt l).1) (if (gt l).2.2≠0∨room<(gt l).1 then l else l.drop (gt l).2.1)
  (if f=0 then (if (gt l).2.2≠0 then (gt l).2.2 else if room<(gt l).1 then 40 else 0) else f):=by
 refine⟨fun h0=>?_,fun h0=>jdt h0⟩;rw[jdu h0];unfold ir;by_cases h1:(gt l).2.2≠0
 ·rw[jdu h1,jdu h1,jdt h1]
 ·rw[jdt h1,jdt h1]
  by_cases h2:room<(gt l).1
  ·rw[jdu h2,jdu h2,jdt (by omega)]
  ·rw[jdt h2,jdt h2,jdu rfl,jdt (by omega),jdt (by omega)]
theorem As.bind{α β : Type}{m:List Nat->Except Nat (α×List Nat)}{k:α->List Nat->Except Nat (β×List Nat)}{e e':List Nat}{x:α}{y:β}(h1:As m e x)(h2:As (k x) e' y):As (aC m k) (e++e') y:=by
 intro r;rw[jdL];rcases h1 (e'++r)with h | ⟨c,hc,h⟩
 ·rw[cZ h];exact h2 r
 ·rw[cE h];exact Or.inr ⟨c,hc,rfl⟩
theorem um.bind{α β : Type}{m:List Nat->Except Nat (α×List Nat)}{k:α->List Nat->Except Nat (β×List Nat)}{e e':List Nat}{x:α}{y:β}(h1:um m e x)(h2:um (k x) e' y):um (aC m k) (e++e') y:=by
 intro r;rw[jdL,cZ (h1 (e'++r))];exact h2 r
theorem ko{room n:Nat}(hn:n<18446744073709551616)(hr:n<=room):um (ir room) (uv n) n:=by
 intro r;unfold ir;rw[mA n hn r];simp only;rw[jdt (by omega),jdt (by omega),jed]
theorem lN{room n:Nat}(hn:n<18446744073709551616):As (ir room) (uv n) n:=by
 intro r;by_cases hr:n<=room
 ·exact Or.inl (ko hn hr r)
 ·right
  refine⟨40,by omega,?_⟩;unfold ir;rw[mA n hn r];simp only;rw[jdt (by omega),jdu (by omega)]
theorem Ra{f:Fd}(h:Okf f)(hs:f.2.1.size<18446744073709551616):As uo (iq f) f:=by
 obtain⟨i,s,k,n⟩:=f;have h1:=h.1;have h2:=h.2;simp only at h1 h2 hs;have e:iq (i,s,k,n)=uv i++((uv s.size++da s)++(uv k++(uv (eU n)++[]))):=by simp[iq]
 rw[e];refine(lN (by omega)).bind (((lN hs).bind (uZ s).eith).bind ((lN (by omega)).bind ((lN (by unfold eU;split<;>omega)).bind ?_)));intro r;left
 rw[CD];rfl
theorem Rb{f:Fd}(h:Okf f)(hs:f.2.1.size<=16):um uo (iq f) f:=by
 obtain⟨i,s,k,n⟩:=f;have h1:=h.1;have h2:=h.2;simp only at h1 h2 hs;have e:iq (i,s,k,n)=uv i++((uv s.size++da s)++(uv k++(uv (eU n)++[]))):=by simp[iq]
 rw[e];have kj:eU n<=1:=by unfold eU;split<;>omega
 refine(ko (by omega) (by omega)).bind (((ko (by omega) hs).bind (uZ s)).bind ((ko (by omega) (by omega)).bind ((ko (by omega) kj).bind ?_)));intro r;rw[CD];rfl
theorem Mp{l:List Fd}(h:∀ f∈l,Okf f/\f.2.1.size<18446744073709551616):∀ n,n<=l.length->As (kU n) (gV (l.take n)) (l.take n):=by
 intro n;induction n with
 | zero=>intro _;exact(yP _).eith
 | succ n ih =>
  intro hn;have hf:=h l[n] (jdA (by omega));rw[mB (by omega),jdM (by omega),← jdT (iq l[n])];exact(ih (by omega)).bind ((Ra hf.1 hf.2).bind (fun r=>Or.inl rfl))
theorem Mq{l:List Fd}(h:∀ f∈l,Okf f/\f.2.1.size<=16):∀ n,n<=l.length->um (kU n) (gV (l.take n)) (l.take n):=by
 intro n;induction n with
 | zero=>intro _;exact yP _
 | succ n ih =>
  intro hn;have hf:=h l[n] (jdA (by omega));rw[mB (by omega),jdM (by omega),← jdT (iq l[n])];exact(ih (by omega)).bind ((Rb hf.1 hf.2).bind (fun r=>rfl))
theorem CO{id:Nat}{l:List Fd}(np:id<4294967296)(ho:∀ f∈l,Okf f)(hs:szs l<5000)(hl:l.length<=100)(r:List Nat) :
  if chk id l=0 then db (dF id l++r)=.ok ((id,l),r) else ∃ c,c≠0/\db (dF id l++r)=.error c:=by
 have e:dF id l=uv id++(uv l.length++(gV l++[])):=by simp[dF]
 by_cases h:chk id l=0
 ·rw[jdu h]
  have hr:=qx h
  have kL:fe [] l=0:=by
   unfold chk at h;rwa[jdt (by omega)]at h
  have hn:=qz kL;have hjf:=Mq (fun f hf=>⟨ho f hf,hn f hf⟩) l.length (jdw _);rw[jdE]at hjf
  have hj:um CL (dF id l) (id,l):=by
   rw[e];exact(ko (by omega) (by omega)).bind ((ko (by omega) (by omega)).bind ((hjf).bind (fun r=>rfl)))
  unfold db;rw[cZ (hj r)];simp only;rw[jdu h]
 ·rw[jdt h]
  have hjf:=Mp (l:=l) (fun f hf=>⟨ho f hf,by have:=KS hf;omega⟩) l.length (jdw _);rw[jdE]at hjf
  have hj:As CL (dF id l) (id,l):=by
   rw[e];exact(lN (by omega)).bind ((lN (by omega)).bind ((hjf).bind (fun r=>Or.inl rfl)))
  unfold db;rcases hj r with h2 | ⟨c,hc,h2⟩
  ·rw[cZ h2]
   simp only;rw[jdt h];exact⟨_,h,rfl⟩
  ·rw[cE h2]
   exact⟨c,hc,rfl⟩
open Go.RowKit
theorem pM:(Tryz.prog.info? 92).map (fun i=>(i.zero,i.size,i.bytes))=some (some (.int .u64 0),1,8):=by kernel_rfl
theorem jah{acc:List UInt8}{k n:Nat}(h:acc++uvarint k=uvarint n)(hn:n<18446744073709551616):acc.length+1<=10:=by
 have h1:=uvarint_length64 hn;have h2:=uvarint_pos k;have h3:=jdB List.length h;rw[jdy]at h3;omega
theorem CQ(n:Nat)(hn:n<18446744073709551616)(w:World) :
  Calls Tryz.prog 119 #[.int .u64 (n:Int)] w fun e w'=>(∃ v,e=.returned v/\w'.ownsRow w.heap.size 5 1 v (uvarint n).length (aX (uvarint n)))/\Below w.heap.size w w':=by
 obtain⟨i0,hi,ct,hz1',bv⟩:=jdP jk;have HN:=ae hn;clear hn;go_enter Tryz.func119,Tryz.ntmps119
 go_wp2_with fail;go_loopw [0,3] (fun m b wr=>∃(k:Nat) (acc:List UInt8),m=.int .u64 (k:Int)/\k<18446744073709551616/\acc++uvarint k=uvarint n/\wr.ownsRow w.heap.size 5 1 b acc.length (aX acc)/\Below w.heap.size w wr) (fun m _ _=>(intOf m).toNat)
 case atStart=>exact⟨n,[],rfl,HN.o,rfl,jeo _ _ _ _,jdv _ _⟩
 case round =>
  obtain⟨k,acc,rfl,hk,Kf,aA,az⟩:=hrel;have bR:=jah Kf HN.o;have HA:=ae Kf;have HO:=ae aA;have HB:=ae az;have bF:=az.size;clear Kf aA az;by_cases h:(k:Int)>=128
  ·have hor:=u8_or128_any ((k:Int) % 256) (by omega) (by omega)
   go_wp2_with (first | (at_builtin;refine jeb _ rfl _ _ 30 rfl w.heap.size 5 i0 (.int .u8 0) 1 1 Tryz.underlying30 hi ct hz1' bv rfl (by decide) _ _ _ rfl (HO.o.alloc _) ⟨wr.heap.size,0,none⟩ 1 1 [.int .u8 ((k:Int) % 128+128)] rfl rfl ?c1 ?c2 ?c3 ?c4 ?c5 ?_))
   case c1=>exact cell_one_new _ _ _
   case c2=>first | rfl | (intro u hu;simp at hu;subst hu;rfl)
   case c3=>unfold maxLen;omega
   case c4=>omega
   case c5=>first | omega | (simp;omega)
   intro v1 w2 o1 g1 _ e1;have eY:=ae o1;have aQ:=ae ((HB.o.alloc (by omega) _).grown g1 (by simp;omega) (fun k hk=>(HO.o.lt k hk).1));clear o1 g1 e1;go_wp2_with fail;go_roundw
   case rel =>
    refine⟨k / 128,acc++[(k % 128+128).toUInt8],by go_num,by omega,?_,?_,aQ.o⟩
    ·rw[← HA.o,uvarint_big (x:=k) (by omega)];simp
    ·rw[jz,jdy]
     rw[jL (by omega)];exact eY.o
   case measure=>simp[intOf];omega
  ·have VM:uvarint k=[k.toUInt8]:=uvarint_small (by omega)
   have HS:=ae VM;clear VM;go_wp2_with (first | (at_builtin;refine jeb _ rfl _ _ 30 rfl w.heap.size 5 i0 (.int .u8 0) 1 1 Tryz.underlying30 hi ct hz1' bv rfl (by decide) _ _ _ rfl (HO.o.alloc _) ⟨wr.heap.size,0,none⟩ 1 1 [.int .u8 (k:Int)] rfl rfl ?c1 ?c2 ?c3 ?c4 ?c5 ?_))
   case c2=>first | rfl | (intro u hu;simp at hu;subst hu;rfl)
   case c3=>unfold maxLen;omega
   case c4=>omega
   case c5=>first | omega | (simp;omega)
   intro v1 w2 o1 g1 _ e1;have eY:=ae o1;have aQ:=ae ((HB.o.alloc (by omega) _).grown g1 (by simp;omega) (fun k hk=>(HO.o.lt k hk).1));clear o1 g1 e1;go_wp2_with fail;go_ret
   refine⟨⟨_,rfl,?_⟩,aQ.o⟩;have h1:=eY.o;rw[← HA.o,HS.o,jz,jdy];rw[jL (by omega)];exact h1
theorem Gx:∀(N n:Nat),n<=N->n<18446744073709551616->∀ w:World,
  Calls Tryz.prog 45 #[.int .u64 (n:Int)] w fun e w'=>(∃ v,e=.returned v/\w'.ownsRow w.heap.size 5 1 v (uvarint n).length (aX (uvarint n)))/\Below w.heap.size w w':=by
 intro N;induction N with
 | zero =>
  intro n h0 hn w;obtain rfl:n=0:=by omega
  have HS:=ae (uvarint_small (x:=0) (by omega));go_enter Tryz.func45,Tryz.ntmps45
  go_wp2_with fail;go_ret
  refine⟨⟨_,rfl,?_⟩,(jdv _ _).alloc (jdw _) _⟩;rw[HS.o];exact jeG w #[.int .u8 0] 1 (jdw _) (by unfold maxLen;omega) rfl
 | succ N ih =>
  intro n h0 hn w;obtain⟨i0,hi,ct,hz1',bv⟩:=jdP jk;by_cases h:(n:Int)<128
  ·have HS:=ae (uvarint_small (x:=n) (by omega))
   have HV:=ae (jL (x:=n) (by omega));clear ih;go_enter Tryz.func45,Tryz.ntmps45
   go_wp2_with fail;go_ret
   refine⟨⟨_,rfl,?_⟩,(jdv _ _).alloc (jdw _) _⟩;rw[HS.o,HV.o];exact jeG w #[.int .u8 (n:Int)] 1 (jdw _) (by unfold maxLen;omega) rfl
  ·have HS:=ae (uvarint_big (x:=n) (by omega))
   have HL:=ae (uvarint_length64 (x:=n / 128) (by omega));have HP:=ae (uvarint_pos (n / 128));have HV:=ae (jL (x:=n % 128+128) (by omega));have HI:=ae (ih (n / 128) (by omega) (by omega));have xA:∀ B,B<=w.heap.size->(w.alloc (.cells #[.int .u8 ((n:Int) % 128+128)] 5)).ownsRow B 5 1 (.slice (some ⟨w.heap.size,0,none⟩) 1 1) 1 [.int .u8 ((n:Int) % 128+128)]:=fun B hB=>jeG w #[.int .u8 ((n:Int) % 128+128)] 1 hB (by unfold maxLen;omega) rfl
   have HLit:=ae xA;clear ih xA;go_enter Tryz.func45,Tryz.ntmps45
   go_wp2_with fail;refine(HI.o _).mono ?_;rintro e w2 ⟨⟨v,rfl,aA⟩,hb⟩;obtain⟨g,cap,rfl,hg,hgB,hc⟩:=(sk aA).2 HP.o;have HC:=ae hc;have HO:=ae (bL (HLit.o w.heap.size (jdw _)) hb);have HB:=ae (((jdv w.heap.size w).alloc (jdw _) (.cells #[.int .u8 ((n:Int) % 128+128)] 5)).trans (hb.mono (by simp)));have hz:=hb.size;simp at hz
   clear hc aA hb;have bR:=HL.o;go_wp2_with (first | (at_builtin;refine jeb _ rfl _ _ 30 rfl w.heap.size 5 i0 (.int .u8 0) 1 1 Tryz.underlying30 hi ct hz1' bv rfl (by decide) _ _ _ rfl HO.o ⟨g,0,none⟩ (uvarint (n / 128)).length cap (aX (uvarint (n / 128))) rfl (by rw[mV];omega) ?c1 ?c2 ?c3 ?c4 ?c5 ?_))
   case c1=>intro j u hu;rw[mv];exact HC.o j u hu
   case c2=>exact sp _
   case c3=>unfold maxLen;omega
   case c4=>omega
   case c5=>omega
   intro v1 w3 o1 g1 _ e1;have eY:=ae o1;have aQ:=ae (HB.o.grown g1 (by omega) (fun k hk=>(HO.o.lt k hk).1));clear o1 g1 e1;go_wp2_with fail;go_ret
   refine⟨⟨_,rfl,?_⟩,aQ.o⟩;have h1:=eY.o;rw[HS.o]
   have e2:aX ((n % 128+128).toUInt8::uvarint (n / 128))=[.int .u8 ((n:Int) % 128+128)]++aX (uvarint (n / 128)):=by
    rw[← List.singleton_append,jz,HV.o];rfl
   rw[e2,jdD,Nat.add_comm];exact h1
theorem vK(n:Nat)(hn:n<18446744073709551616)(w:World) :
  Calls Tryz.prog 45 #[.int .u64 (n:Int)] w fun e w'=>(∃ v,e=.returned v/\w'.ownsRow w.heap.size 5 1 v (uvarint n).length (aX (uvarint n)))/\Below w.heap.size w w' :=
 Gx n n (jdw _) hn w
def kO(k:IntKind)(x:Int)(u e:Nat):Ending:=.returned (.tuple #[.int k x,.int .i64 (u:Int),.int .i64 (e:Int)])
theorem Mr(n used:Nat)(c:UInt8)(hu:used<=10)(w:World) :
  Calls Tryz.prog 213 #[.int .u64 (n:Int),.int .i64 (used:Int),.int .u8 (c.toNat:Int)] w fun e w' =>
   e=(if c.toNat=0/\1<used then kO .u64 0 0 31 else kO .u64 (n:Int) used 0)/\w'=w:=by
 by_cases h1:((c.toNat:Int)==0)=true
 ·have h1':c.toNat=0:=by simpa using h1
  by_cases h2:(used:Int) > 1
  ·rw[jdu ⟨h1',by omega⟩]
   clear h1';go_enter Tryz.func213,Tryz.ntmps213
   go_wp2_with fail;go_ret3
   exact⟨rfl,rfl⟩
  ·rw[jdt (fun h=>by omega)]
   clear h1';go_enter Tryz.func213,Tryz.ntmps213
   go_wp2_with fail;go_ret3
   exact⟨rfl,rfl⟩
 ·have h1':((c.toNat:Int)==0)=false:=by simpa using h1
  rw[jdt (fun h=>h1 (by simpa using h.1))];clear h1;go_enter Tryz.func213,Tryz.ntmps213
  go_wp2_with fail;go_ret3
  exact⟨rfl,rfl⟩
theorem Ms(a:Option Addr)(cap:Nat)(w:World):Calls Tryz.prog 180 #[.slice a 0 cap] w fun e w'=>e=kO .u64 0 0 30/\w'=w:=by
 go_enter Tryz.func180,Tryz.ntmps180
 go_wp2_with fail;refine wp_loop_rounds 1 ?_;rw[rounds_succ];go_wp2_with fail;go_ret3
 exact⟨rfl,rfl⟩
theorem jai{c k:Nat}:((c:Nat):Int)*2 ^ (7*k)=((c*128 ^ k:Nat):Int):=by
 rw[← jae];simp
theorem Wq{l:List UInt8}{k:Nat}(h:k<l.length)(h9:k<=9)(kM:val (l.take (k+1))<18446744073709551616) :
  bits .or .u64 (val (l.take k):Int) (IntKind.u64.wrap ((l[k].toNat:Int) % 128*2 ^ (7*k)))=(val (l.take (k+1)):Int):=by
 have hv:=fh h;have hl:=vG (l.take k);rw[jdC,jew (by omega)]at hl
 have e:(l[k].toNat:Int) % 128*2 ^ (7*k)=((l[k].toNat % 128*128 ^ k:Nat):Int):=by
  rw[← jai];simp
 rw[e,wraps_u64 _ (by omega) (by omega),QW h9 hl (by omega),hv]
theorem Wr{k:Nat}{n:Int}{c:UInt8}(hu:k+1<=10)(w:World){P:Ending->World->Prop}(h:Calls Tryz.prog 213 #[.int .u64 n,.int .i64 ((k+1:Nat):Int),.int .u8 (c.toNat:Int)] w P) :
  Calls Tryz.prog 213 #[.int .u64 n,.int .i64 ((k:Int)+1),.int .u8 (c.toNat:Int)] w P:=by
 have e:((k+1:Nat):Int)=(k:Int)+1:=by omega
 rwa[e]at h
theorem Rc(b off cap:Nat)(l:List UInt8)(w:World)(jbd:l.length<=maxLen)(aW:l.length<=cap)
  (hc:∀ j (h:j<l.length),w.cell? ⟨b,off+j,none⟩=some (.int .u8 (l[j].toNat:Int))) :
  Calls Tryz.prog 180 #[.slice (some ⟨b,off,none⟩) l.length cap] w fun e w'=>e=kO .u64 ((fB l).1:Int) (fB l).2.1 (fB l).2.2/\w'=w:=by
 have hm:l.length<=9223372036854775807:=by unfold maxLen at jbd;omega
 have HC:=ae hc;clear hc jbd;go_enter Tryz.func180,Tryz.ntmps180
 go_wp2_with fail;go_loopw [5,10] (fun n i w'=>w'=w/\∃ k:Nat,k<=9/\k<=l.length/\k<=aU l/\i=.int .i64 (k:Int)/\n=.int .u64 (val (l.take k):Int)) (fun _ i _=>l.length-(intOf i).toNat)
 case atStart=>exact⟨rfl,0,by omega,by omega,by omega,rfl,rfl⟩
 case round =>
  obtain⟨rfl,k,h9,hk,zZ,rfl,rfl⟩:=hrel;by_cases aB:k<l.length
  ·have ek:=HC.o k aB
   have hval:=fh aB;have Uz:=vG (l.take k);rw[jdC,jew (by omega)]at Uz;have HT:=ae (fun(e:k=9) (h:1<l[k].toNat)=>Gu (l:=l) (by omega) (by omega) (by subst e;exact h));have HL:=ae (fun h1 h2=>yR (l:=l) zZ h9 aB h1 h2);have HN:=ae (Mk zZ aB);have kM:=fun h=>Wq (l:=l) aB h9 (QU (l:=l) h9 aB h)
   have eQ:=l[k].toNat_lt;have han:=Ml l[k];have uD:=ae zZ;have lF:=ae (fun w=>Wr (k:=k) (by omega) w (Mr (val (l.take (k+1))) (k+1) l[k] (by omega) w));clear zZ;generalize l[k]=c at *;by_cases hk9:((k:Int)==9)=true
   ·have hk9':k=9:=by have:(k:Int)=9:=(by simpa using hk9);omega
    by_cases lp:(c.toNat:Int) > 1
    ·have HE:=ae (HT.o hk9' (by omega))
     clear HT HL HN kM hval Uz han hk9';go_wp2_with fail;go_ret3
     rw[HE.o];exact⟨rfl,rfl⟩
    ·have HJ:=ae (kM (fun _=>by omega))
     have HF:=ae (HL.o (by omega) (fun _=>by omega));clear HT HL HN kM hval Uz hk9';go_wp2_with fail;rw[HJ.o];refine(lF.o _).mono ?_;rintro e w1 ⟨rfl,rfl⟩
     have gM:jfp ((if c.toNat=0/\1<k+1 then kO .u64 0 0 31 else kO .u64 (val (l.take (k+1)):Int) (k+1) 0)=kO .u64 ((fB l).1:Int) (fB l).2.1 (fB l).2.2):=by
      show _=_
      rw[HF.o];by_cases h:c.toNat=0/\0<k
      ·rw[jdu h,jdu ⟨h.1,by omega⟩];rfl
      ·rw[jdt h,jdt (fun h1=>h ⟨h1.1,by omega⟩)]
     rw[gM.o];unfold kO;go_wp2_with fail;go_ret3
     exact⟨rfl,rfl⟩
   ·have hk9':((k:Int)==9)=false:=by simpa using hk9
    have hk8:k<=8:=by have:¬ (k:Int)=9:=(by simpa using hk9);omega
    have HJ:=ae (kM (fun _=>by omega));clear hk9;by_cases lp:(c.toNat:Int)<128
    ·have HF:=ae (HL.o (by omega) (fun _=>by omega))
     clear HT HL HN kM hval Uz;go_wp2_with fail;rw[HJ.o];refine(lF.o _).mono ?_;rintro e w1 ⟨rfl,rfl⟩
     have gM:jfp ((if c.toNat=0/\1<k+1 then kO .u64 0 0 31 else kO .u64 (val (l.take (k+1)):Int) (k+1) 0)=kO .u64 ((fB l).1:Int) (fB l).2.1 (fB l).2.2):=by
      show _=_
      rw[HF.o];by_cases h:c.toNat=0/\0<k
      ·rw[jdu h,jdu ⟨h.1,by omega⟩];rfl
      ·rw[jdt h,jdt (fun h1=>h ⟨h1.1,by omega⟩)]
     rw[gM.o];unfold kO;go_wp2_with fail;go_ret3
     exact⟨rfl,rfl⟩
    ·have HF:=ae (HN.o (by omega))
     clear HT HL HN kM hval Uz;go_wp2_with fail;rw[HJ.o];go_roundw
     case rel=>exact⟨trivial,k+1,by omega,by omega,HF.o,by go_num,rfl⟩
     case measure=>simp[intOf];omega
  ·have HE:=ae (CJ zZ h9 aB)
   clear zZ;go_wp2_with fail;go_ret3
   rw[HE.o];exact⟨rfl,rfl⟩
theorem KV{w:World}{v:Value}{l:List UInt8}(h:Sl w v l):Calls Tryz.prog 180 #[v] w fun e w'=>e=kO .u64 ((fB l).1:Int) (fB l).2.1 (fB l).2.2/\w'=w:=by
 obtain⟨a,cap,rfl,h1,h2,h3⟩:=h;cases l with
 | nil=>exact Ms a cap w
 | cons x r =>
  obtain⟨b,off,rfl,_,h5⟩:=h3 (by simp);exact Rc b off cap (x::r) w (by omega) h1 h5
theorem Mt{l:List UInt8}(h:¬ (9<=aU l/\9<l.length/\1<(l.getD 9 0).toNat))(hl:aU l<l.length):aU l<=9/\(aU l=9->l[aU l].toNat<=1):=by
 have h9:aU l<=9:=by
  rcases jdY 9 (aU l)with h1 | h1
  ·exfalso
   apply h
   refine⟨by omega,by omega,?_⟩;rw[kT (by omega)];have:=nD l 9 (by omega) h1;omega
  ·exact h1
 refine⟨h9,fun e=>?_⟩;have h3:¬ 1<(l.getD 9 0).toNat:=fun h2=>h ⟨by omega,by omega,h2⟩
 rw[kT (by omega)]at h3;simp only[e];omega
theorem yV(l:List UInt8):(fB l).1<18446744073709551616/\(fB l).2.1<=l.length/\(fB l).2.1<=10/\((fB l).2.2=0∨(((fB l).2.2=30∨(fB l).2.2=31)/\(fB l).1=0/\(fB l).2.1=0)):=by
 have pB:=uN l;unfold fB;split
 ·simp
 ·rename_i h1
  split
  ·simp
  ·rename_i h2
   have hl:aU l<l.length:=(by omega);obtain⟨h9,ht⟩:=Mt h1 hl;split
   ·simp
   ·refine⟨QU h9 hl ht,?_,?_,Or.inl rfl⟩<;>simp only<;>omega
theorem Rd{e:Nat}(h:e=0∨e=30∨e=31)(h0:¬ e=0):((e:Int) != 0)=true:=by simp;omega
theorem uO(n:Nat):aF .u8 (uv n)=aX (uvarint n):=ve _
theorem dM(n:Nat)(hn:n<18446744073709551616)(w:World):Calls Tryz.prog 119 #[.int .u64 (n:Int)] w (dw w (uv n)):=by
 refine(CQ n hn w).mono ?_;rintro e w' ⟨⟨v,rfl,h⟩,hb⟩;exact⟨⟨v,rfl,by unfold aD;rw[uO,my];exact h⟩,hb⟩
theorem bG(n:Nat)(hn:n<18446744073709551616)(w:World):Calls Tryz.prog 45 #[.int .u64 (n:Int)] w (dw w (uv n)):=by
 refine(vK n hn w).mono ?_;rintro e w' ⟨⟨v,rfl,h⟩,hb⟩;exact⟨⟨v,rfl,by unfold aD;rw[uO,my];exact h⟩,hb⟩
theorem fW(b:List Nat):(gt b).1<18446744073709551616/\(gt b).2.1<=b.length/\(gt b).2.1<=10/\((gt b).2.2=0∨(((gt b).2.2=30∨(gt b).2.2=31)/\(gt b).1=0/\(gt b).2.1=0)):=by
 have:=yV (b.map Nat.toUInt8);rw[jdz]at this;exact this
theorem AE{w:World}{a:Option Addr}{n cap:Nat}{b:List Nat}(hb:Bs b)(h:Sv w (.slice a n cap) (aF .u8 b)) :
  Calls Tryz.prog 180 #[.slice a n cap] w fun e w'=>e=kO .u64 ((gt b).1:Int) (gt b).2.1 (gt b).2.2/\w'=w:=KV (h.sl hb)
end Go.Proofs.YtpljdjmpamjkhaaGreatDoor
