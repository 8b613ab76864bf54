import Derived.Test.YtpljdjmpamjkhaaGreatDoorUac
set_option linter.unusedVariables false
set_option linter.unusedSimpArgs false
set_option maxRecDepth 100000
set_option maxHeartbeats 2000000
namespace Go.Proofs.YtpljdjmpamjkhaaGreatDoor
open Go Go.Lib
def ij(f:Fd):List Nat:=uv f.1++uv f.2.1.size++df f.2.1++uv f.2.2.1++uv (eU f.2.2.2)
def gO(l:List Fd):List Nat:=l.flatMap ij
def dB(id:Nat)(l:List Fd):List Nat:=uv id++uv l.length++gO l
theorem mv{l:List Fd}{i:Nat}(h:i<l.length):gO (l.take (i+1))=gO (l.take i)++ij l[i]:=by
 unfold gO;rw[jdx h,jet];simp
theorem yV{f:Fd}(h:Okf f)(hs:f.2.1.size<18446744073709551616):(ij f).length<=40+f.2.1.size:=by
 unfold ij;have h1:=bJ (n:=f.1) (by have:=h.1;omega);have h2:=bJ (n:=f.2.1.size) hs;have h3:=bJ (n:=f.2.2.1) (by have:=h.2;omega);have h4:=bJ (n:=eU f.2.2.2) (by unfold eU;split<;>omega);simp only[jdj,iR];omega
theorem Mf{l:List Fd}(h:∀ f∈l,Okf f)(hs:szs l<5000):(gO l).length<=40*l.length+szs l:=by
 induction l with
 | nil=>simp[gO]
 | cons f t ih =>
  have hz:szs (f::t)=f.2.1.size+szs t:=by simp[szs]
  have:=ih (fun g hg=>h g (by simp[hg])) (by omega);have h2:=yV (h f (by simp)) (by omega);unfold gO at *;rw[jeA,jdj,jdn,hz];omega
def ik(room:Nat)(b:List Nat):Except Nat (Nat×List Nat) :=
 if (gt b).2.2≠0 then .error (gt b).2.2 else if room<(gt b).1 then .error 40 else .ok ((gt b).1,b.drop (gt b).2.1)
def QH(room:Nat):List Nat->Except Nat (ByteArray×List Nat):=aB (ik room) textR
def ux:List Nat->Except Nat (Fd×List Nat) :=
 aB (ik 4294967295) fun i=>aB (QH 16) fun s=>aB (ik 255) fun k=>aB (ik 1) fun n r=>.ok ((i,s,k,decide (n=1)),r)
def kR:Nat->List Nat->Except Nat (List Fd×List Nat)
 | 0=>fun b=>.ok ([],b)
 | n+1=>aB (kR n) fun l=>aB ux fun f r=>.ok (l++[f],r)
def CT:List Nat->Except Nat ((Nat×List Fd)×List Nat) :=
 aB (ik 4294967295) fun i=>aB (ik 8) fun n=>aB (kR n) fun l r=>.ok ((i,l),r)
def da(b:List Nat):Except Nat ((Nat×List Fd)×List Nat) :=
 aB CT (fun s r=>if chk s.1 s.2=0 then .ok (s,r) else .error (chk s.1 s.2)) b
theorem Rds.bind{α β : Type}{m:List Nat->Except Nat (α×List Nat)}{k:α->List Nat->Except Nat (β×List Nat)}{l l1 l2:List Nat}{f f1 f2:Nat}{x:α}{y:β}
  (h1:Rds m l f x l1 f1) (h2:Rds (k x) l1 f1 y l2 f2):Rds (aB m k) l f y l2 f2:=by
 refine⟨fun h0=>?_,fun h0=>?_⟩
 ·have e1:=h1.1 h0
  by_cases hf:f1=0
  ·rw[jdf hf]at e1
   rw[cX e1];exact h2.1 hf
  ·rw[jde hf]at e1
   rw[cC e1,h2.2 hf,jde hf]
 ·have e1:=h1.2 h0
  rw[h2.2 (by omega),e1]
theorem AH{room:Nat}{l:List Nat}{f:Nat}:Rds (ik room) l f (if (gt l).2.2≠0∨room<(gt l).1 then 0 else (gt l).1) (if (gt l).2.2≠0∨room<(gt l).1 then l else l.drop (gt l).2.1)
  (if f=0 then (if (gt l).2.2≠0 then (gt l).2.2 else if room<(gt l).1 then 40 else 0) else f):=by
 refine⟨fun h0=>?_,fun h0=>jde h0⟩;rw[jdf h0];unfold ik;by_cases h1:(gt l).2.2≠0
 ·rw[jdf h1,jdf h1,jde h1]
 ·rw[jde h1,jde h1]
  by_cases h2:room<(gt l).1
  ·rw[jdf h2,jdf h2,jde (by omega)]
  ·rw[jde h2,jde h2,jdf rfl,jde (by omega),jde (by omega)]
theorem Ax.bind{α β : Type}{m:List Nat->Except Nat (α×List Nat)}{k:α->List Nat->Except Nat (β×List Nat)}{e e':List Nat}{x:α}{y:β}(h1:Ax m e x)(h2:Ax (k x) e' y):Ax (aB m k) (e++e') y:=by
 intro r;rw[jdw];rcases h1 (e'++r)with h | ⟨c,hc,h⟩
 ·rw[cX h];exact h2 r
 ·rw[cC h];exact Or.inr ⟨c,hc,rfl⟩
theorem uw.bind{α β : Type}{m:List Nat->Except Nat (α×List Nat)}{k:α->List Nat->Except Nat (β×List Nat)}{e e':List Nat}{x:α}{y:β}(h1:uw m e x)(h2:uw (k x) e' y):uw (aB m k) (e++e') y:=by
 intro r;rw[jdw,cX (h1 (e'++r))];exact h2 r
theorem kj{room n:Nat}(hn:n<18446744073709551616)(hr:n<=room):uw (ik room) (uv n) n:=by
 intro r;unfold ik;rw[mu n hn r];simp only;rw[jde (by omega),jde (by omega),jdY]
theorem lJ{room n:Nat}(hn:n<18446744073709551616):Ax (ik room) (uv n) n:=by
 intro r;by_cases hr:n<=room
 ·exact Or.inl (kj hn hr r)
 ·right
  refine⟨40,by omega,?_⟩;unfold ik;rw[mu n hn r];simp only;rw[jde (by omega),jdf (by omega)]
theorem QI{f:Fd}(h:Okf f)(hs:f.2.1.size<18446744073709551616):Ax ux (ij f) f:=by
 obtain⟨i,s,k,n⟩:=f;have h1:=h.1;have h2:=h.2;simp only at h1 h2 hs;have e:ij (i,s,k,n)=uv i++((uv s.size++df s)++(uv k++(uv (eU n)++[]))):=by simp[ij]
 rw[e];refine(lJ (by omega)).bind (((lJ hs).bind (vH s).eith).bind ((lJ (by omega)).bind ((lJ (by unfold eU;split<;>omega)).bind ?_)));intro r;left
 rw[CJ];rfl
theorem QJ{f:Fd}(h:Okf f)(hs:f.2.1.size<=16):uw ux (ij f) f:=by
 obtain⟨i,s,k,n⟩:=f;have h1:=h.1;have h2:=h.2;simp only at h1 h2 hs;have e:ij (i,s,k,n)=uv i++((uv s.size++df s)++(uv k++(uv (eU n)++[]))):=by simp[ij]
 rw[e];have jT:eU n<=1:=by unfold eU;split<;>omega
 refine(kj (by omega) (by omega)).bind (((kj (by omega) hs).bind (vH s)).bind ((kj (by omega) (by omega)).bind ((kj (by omega) jT).bind ?_)));intro r;rw[CJ];rfl
theorem Mg{l:List Fd}(h:∀ f∈l,Okf f/\f.2.1.size<18446744073709551616):∀ n,n<=l.length->Ax (kR n) (gO (l.take n)) (l.take n):=by
 intro n;induction n with
 | zero=>intro _;exact(yQ _).eith
 | succ n ih =>
  intro hn;have hf:=h l[n] (jdl (by omega));rw[mv (by omega),jdx (by omega),← jdB (ij l[n])];exact(ih (by omega)).bind ((QI hf.1 hf.2).bind (fun r=>Or.inl rfl))
theorem Mh{l:List Fd}(h:∀ f∈l,Okf f/\f.2.1.size<=16):∀ n,n<=l.length->uw (kR n) (gO (l.take n)) (l.take n):=by
 intro n;induction n with
 | zero=>intro _;exact yQ _
 | succ n ih =>
  intro hn;have hf:=h l[n] (jdl (by omega));rw[mv (by omega),jdx (by omega),← jdB (ij l[n])];exact(ih (by omega)).bind ((QJ hf.1 hf.2).bind (fun r=>rfl))
theorem CU{id:Nat}{l:List Fd}(na:id<4294967296)(ho:∀ f∈l,Okf f)(hs:szs l<5000)(hl:l.length<=100)(r:List Nat) :
  if chk id l=0 then da (dB id l++r)=.ok ((id,l),r) else ∃ c,c≠0/\da (dB id l++r)=.error c:=by
 have e:dB id l=uv id++(uv l.length++(gO l++[])):=by simp[dB]
 by_cases h:chk id l=0
 ·rw[jdf h]
  have hr:=qx h
  have lz:fe [] l=0:=by
   unfold chk at h;rwa[jde (by omega)]at h
  have hn:=qz lz;have hjf:=Mh (fun f hf=>⟨ho f hf,hn f hf⟩) l.length (jdh _);rw[jdp]at hjf
  have hj:uw CT (dB id l) (id,l):=by
   rw[e];exact(kj (by omega) (by omega)).bind ((kj (by omega) (by omega)).bind ((hjf).bind (fun r=>rfl)))
  unfold da;rw[cX (hj r)];simp only;rw[jdf h]
 ·rw[jde h]
  have hjf:=Mg (l:=l) (fun f hf=>⟨ho f hf,by have:=KP hf;omega⟩) l.length (jdh _);rw[jdp]at hjf
  have hj:Ax CT (dB id l) (id,l):=by
   rw[e];exact(lJ (by omega)).bind ((lJ (by omega)).bind ((hjf).bind (fun r=>Or.inl rfl)))
  unfold da;rcases hj r with h2 | ⟨c,hc,h2⟩
  ·rw[cX h2]
   simp only;rw[jde h];exact⟨_,h,rfl⟩
  ·rw[cC h2]
   exact⟨c,hc,rfl⟩
open Go.RowKit
theorem pL:(Tryz.prog.info? 92).map (fun i=>(i.zero,i.size,i.bytes))=some (some (.int .u64 0),1,8):=by kernel_rfl
theorem ZZ{acc:List UInt8}{k n:Nat}(h:acc++uvarint k=uvarint n)(hn:n<18446744073709551616):acc.length+1<=10:=by
 have h1:=uvarint_length64 hn;have h2:=uvarint_pos k;have h3:=jdm List.length h;rw[jdj]at h3;omega
theorem CV(n:Nat)(hn:n<18446744073709551616)(w:World) :
  Calls Tryz.prog 119 #[.int .u64 (n:Int)] w fun e w'=>(∃ v,e=.returned v/\w'.ownsRow w.heap.size 5 1 v (uvarint n).length (aW (uvarint n)))/\Below w.heap.size w w':=by
 obtain⟨i0,hi,cm,hz1',bn⟩:=jdA jm;have HN:=ae hn;clear hn;go_enter Tryz.func119,Tryz.ntmps119
 go_wp2_with fail;go_loopw [0,3] (fun m b wr=>∃(k:Nat) (acc:List UInt8),m=.int .u64 (k:Int)/\k<18446744073709551616/\acc++uvarint k=uvarint n/\wr.ownsRow w.heap.size 5 1 b acc.length (aW acc)/\Below w.heap.size w wr) (fun m _ _=>(intOf m).toNat)
 case atStart=>exact⟨n,[],rfl,HN.o,rfl,jd8 _ _ _ _,jdg _ _⟩
 case round =>
  obtain⟨k,acc,rfl,hk,Kb,aA,az⟩:=hrel;have bR:=ZZ Kb HN.o;have HA:=ae Kb;have HO:=ae aA;have HB:=ae az;have bP:=az.size;clear Kb aA az;by_cases h:(k:Int)>=128
  ·have hor:=u8_or128_any ((k:Int) % 256) (by omega) (by omega)
   go_wp2_with (first | (at_builtin;refine jdU _ rfl _ _ 30 rfl w.heap.size 5 i0 (.int .u8 0) 1 1 Tryz.underlying30 hi cm hz1' bn rfl (by decide) _ _ _ rfl (HO.o.alloc _) ⟨wr.heap.size,0,none⟩ 1 1 [.int .u8 ((k:Int) % 128+128)] rfl rfl ?c1 ?c2 ?c3 ?c4 ?c5 ?_))
   case c1=>exact cell_one_new _ _ _
   case c2=>first | rfl | (intro u hu;simp at hu;subst hu;rfl)
   case c3=>unfold maxLen;omega
   case c4=>omega
   case c5=>first | omega | (simp;omega)
   intro v1 w2 o1 g1 _ e1;have fC:=ae o1;have aR:=ae ((HB.o.alloc (by omega) _).grown g1 (by simp;omega) (fun k hk=>(HO.o.lt k hk).1));clear o1 g1 e1;go_wp2_with fail;go_roundw
   case rel =>
    refine⟨k / 128,acc++[(k % 128+128).toUInt8],by go_num,by omega,?_,?_,aR.o⟩
    ·rw[← HA.o,uvarint_big (x:=k) (by omega)];simp
    ·rw[jA,jdj]
     rw[jM (by omega)];exact fC.o
   case measure=>simp[intOf];omega
  ·have Vx:uvarint k=[k.toUInt8]:=uvarint_small (by omega)
   have HS:=ae Vx;clear Vx;go_wp2_with (first | (at_builtin;refine jdU _ rfl _ _ 30 rfl w.heap.size 5 i0 (.int .u8 0) 1 1 Tryz.underlying30 hi cm hz1' bn rfl (by decide) _ _ _ rfl (HO.o.alloc _) ⟨wr.heap.size,0,none⟩ 1 1 [.int .u8 (k:Int)] rfl rfl ?c1 ?c2 ?c3 ?c4 ?c5 ?_))
   case c2=>first | rfl | (intro u hu;simp at hu;subst hu;rfl)
   case c3=>unfold maxLen;omega
   case c4=>omega
   case c5=>first | omega | (simp;omega)
   intro v1 w2 o1 g1 _ e1;have fC:=ae o1;have aR:=ae ((HB.o.alloc (by omega) _).grown g1 (by simp;omega) (fun k hk=>(HO.o.lt k hk).1));clear o1 g1 e1;go_wp2_with fail;go_ret
   refine⟨⟨_,rfl,?_⟩,aR.o⟩;have h1:=fC.o;rw[← HA.o,HS.o,jA,jdj];rw[jM (by omega)];exact h1
theorem Gt:∀(N n:Nat),n<=N->n<18446744073709551616->∀ w:World,
  Calls Tryz.prog 45 #[.int .u64 (n:Int)] w fun e w'=>(∃ v,e=.returned v/\w'.ownsRow w.heap.size 5 1 v (uvarint n).length (aW (uvarint n)))/\Below w.heap.size w w':=by
 intro N;induction N with
 | zero =>
  intro n h0 hn w;obtain rfl:n=0:=by omega
  have HS:=ae (uvarint_small (x:=0) (by omega));go_enter Tryz.func45,Tryz.ntmps45
  go_wp2_with fail;go_ret
  refine⟨⟨_,rfl,?_⟩,(jdg _ _).alloc (jdh _) _⟩;rw[HS.o];exact jer w #[.int .u8 0] 1 (jdh _) (by unfold maxLen;omega) rfl
 | succ N ih =>
  intro n h0 hn w;obtain⟨i0,hi,cm,hz1',bn⟩:=jdA jm;by_cases h:(n:Int)<128
  ·have HS:=ae (uvarint_small (x:=n) (by omega))
   have HV:=ae (jM (x:=n) (by omega));clear ih;go_enter Tryz.func45,Tryz.ntmps45
   go_wp2_with fail;go_ret
   refine⟨⟨_,rfl,?_⟩,(jdg _ _).alloc (jdh _) _⟩;rw[HS.o,HV.o];exact jer w #[.int .u8 (n:Int)] 1 (jdh _) (by unfold maxLen;omega) rfl
  ·have HS:=ae (uvarint_big (x:=n) (by omega))
   have HL:=ae (uvarint_length64 (x:=n / 128) (by omega));have HP:=ae (uvarint_pos (n / 128));have HV:=ae (jM (x:=n % 128+128) (by omega));have HI:=ae (ih (n / 128) (by omega) (by omega));have xF:∀ B,B<=w.heap.size->(w.alloc (.cells #[.int .u8 ((n:Int) % 128+128)] 5)).ownsRow B 5 1 (.slice (some ⟨w.heap.size,0,none⟩) 1 1) 1 [.int .u8 ((n:Int) % 128+128)]:=fun B hB=>jer w #[.int .u8 ((n:Int) % 128+128)] 1 hB (by unfold maxLen;omega) rfl
   have HLit:=ae xF;clear ih xF;go_enter Tryz.func45,Tryz.ntmps45
   go_wp2_with fail;refine(HI.o _).mono ?_;rintro e w2 ⟨⟨v,rfl,aA⟩,hb⟩;obtain⟨g,cap,rfl,hg,hgB,hc⟩:=(sp aA).2 HP.o;have HC:=ae hc;have HO:=ae (bI (HLit.o w.heap.size (jdh _)) hb);have HB:=ae (((jdg w.heap.size w).alloc (jdh _) (.cells #[.int .u8 ((n:Int) % 128+128)] 5)).trans (hb.mono (by simp)));have hz:=hb.size;simp at hz
   clear hc aA hb;have bR:=HL.o;go_wp2_with (first | (at_builtin;refine jdU _ rfl _ _ 30 rfl w.heap.size 5 i0 (.int .u8 0) 1 1 Tryz.underlying30 hi cm hz1' bn rfl (by decide) _ _ _ rfl HO.o ⟨g,0,none⟩ (uvarint (n / 128)).length cap (aW (uvarint (n / 128))) rfl (by rw[mP];omega) ?c1 ?c2 ?c3 ?c4 ?c5 ?_))
   case c1=>intro j u hu;rw[mq];exact HC.o j u hu
   case c2=>exact sq _
   case c3=>unfold maxLen;omega
   case c4=>omega
   case c5=>omega
   intro v1 w3 o1 g1 _ e1;have fC:=ae o1;have aR:=ae (HB.o.grown g1 (by omega) (fun k hk=>(HO.o.lt k hk).1));clear o1 g1 e1;go_wp2_with fail;go_ret
   refine⟨⟨_,rfl,?_⟩,aR.o⟩;have h1:=fC.o;rw[HS.o]
   have e2:aW ((n % 128+128).toUInt8::uvarint (n / 128))=[.int .u8 ((n:Int) % 128+128)]++aW (uvarint (n / 128)):=by
    rw[← List.singleton_append,jA,HV.o];rfl
   rw[e2,jdn,Nat.add_comm];exact h1
theorem vR(n:Nat)(hn:n<18446744073709551616)(w:World) :
  Calls Tryz.prog 45 #[.int .u64 (n:Int)] w fun e w'=>(∃ v,e=.returned v/\w'.ownsRow w.heap.size 5 1 v (uvarint n).length (aW (uvarint n)))/\Below w.heap.size w w' :=
 Gt n n (jdh _) hn w
def kL(k:IntKind)(x:Int)(u e:Nat):Ending:=.returned (.tuple #[.int k x,.int .i64 (u:Int),.int .i64 (e:Int)])
theorem Mi(n used:Nat)(c:UInt8)(hu:used<=10)(w:World) :
  Calls Tryz.prog 213 #[.int .u64 (n:Int),.int .i64 (used:Int),.int .u8 (c.toNat:Int)] w fun e w' =>
   e=(if c.toNat=0/\1<used then kL .u64 0 0 31 else kL .u64 (n:Int) used 0)/\w'=w:=by
 by_cases h1:((c.toNat:Int)==0)=true
 ·have h1':c.toNat=0:=by simpa using h1
  by_cases h2:(used:Int) > 1
  ·rw[jdf ⟨h1',by omega⟩]
   clear h1';go_enter Tryz.func213,Tryz.ntmps213
   go_wp2_with fail;go_ret3
   exact⟨rfl,rfl⟩
  ·rw[jde (fun h=>by omega)]
   clear h1';go_enter Tryz.func213,Tryz.ntmps213
   go_wp2_with fail;go_ret3
   exact⟨rfl,rfl⟩
 ·have h1':((c.toNat:Int)==0)=false:=by simpa using h1
  rw[jde (fun h=>h1 (by simpa using h.1))];clear h1;go_enter Tryz.func213,Tryz.ntmps213
  go_wp2_with fail;go_ret3
  exact⟨rfl,rfl⟩
theorem Mj(a:Option Addr)(cap:Nat)(w:World):Calls Tryz.prog 180 #[.slice a 0 cap] w fun e w'=>e=kL .u64 0 0 30/\w'=w:=by
 go_enter Tryz.func180,Tryz.ntmps180
 go_wp2_with fail;refine wp_loop_rounds 1 ?_;rw[rounds_succ];go_wp2_with fail;go_ret3
 exact⟨rfl,rfl⟩
theorem jaa{c k:Nat}:((c:Nat):Int)*2 ^ (7*k)=((c*128 ^ k:Nat):Int):=by
 rw[← ZW];simp
theorem Wb{l:List UInt8}{k:Nat}(h:k<l.length)(h9:k<=9)(kJ:val (l.take (k+1))<18446744073709551616) :
  bits .or .u64 (val (l.take k):Int) (IntKind.u64.wrap ((l[k].toNat:Int) % 128*2 ^ (7*k)))=(val (l.take (k+1)):Int):=by
 have hv:=fd h;have hl:=vN (l.take k);rw[jdo,jeg (by omega)]at hl
 have e:(l[k].toNat:Int) % 128*2 ^ (7*k)=((l[k].toNat % 128*128 ^ k:Nat):Int):=by
  rw[← jaa];simp
 rw[e,wraps_u64 _ (by omega) (by omega),QE h9 hl (by omega),hv]
theorem Wc{k:Nat}{n:Int}{c:UInt8}(hu:k+1<=10)(w:World){P:Ending->World->Prop}(h:Calls Tryz.prog 213 #[.int .u64 n,.int .i64 ((k+1:Nat):Int),.int .u8 (c.toNat:Int)] w P) :
  Calls Tryz.prog 213 #[.int .u64 n,.int .i64 ((k:Int)+1),.int .u8 (c.toNat:Int)] w P:=by
 have e:((k+1:Nat):Int)=(k:Int)+1:=by omega
 rwa[e]at h
theorem QK(b off cap:Nat)(l:List UInt8)(w:World)(ja3:l.length<=maxLen)(aY:l.length<=cap)
  (hc:∀ j (h:j<l.length),w.cell? ⟨b,off+j,none⟩=some (.int .u8 (l[j].toNat:Int))) :
  Calls Tryz.prog 180 #[.slice (some ⟨b,off,none⟩) l.length cap] w fun e w'=>e=kL .u64 ((fy l).1:Int) (fy l).2.1 (fy l).2.2/\w'=w:=by
 have hm:l.length<=9223372036854775807:=by unfold maxLen at ja3;omega
 have HC:=ae hc;clear hc ja3;go_enter Tryz.func180,Tryz.ntmps180
 go_wp2_with fail;go_loopw [5,10] (fun n i w'=>w'=w/\∃ k:Nat,k<=9/\k<=l.length/\k<=aT l/\i=.int .i64 (k:Int)/\n=.int .u64 (val (l.take k):Int)) (fun _ i _=>l.length-(intOf i).toNat)
 case atStart=>exact⟨rfl,0,by omega,by omega,by omega,rfl,rfl⟩
 case round =>
  obtain⟨rfl,k,h9,hk,Ac,rfl,rfl⟩:=hrel;by_cases aC:k<l.length
  ·have dR:=HC.o k aC
   have hval:=fd aC;have Uk:=vN (l.take k);rw[jdo,jeg (by omega)]at Uk;have HT:=ae (fun(e:k=9) (h:1<l[k].toNat)=>Gn (l:=l) (by omega) (by omega) (by subst e;exact h));have HL:=ae (fun h1 h2=>yS (l:=l) Ac h9 aC h1 h2);have HN:=ae (Mb Ac aC);have kJ:=fun h=>Wb (l:=l) aC h9 (QC (l:=l) h9 aC h)
   have eQ:=l[k].toNat_lt;have han:=Mc l[k];have uJ:=ae Ac;have lA:=ae (fun w=>Wc (k:=k) (by omega) w (Mi (val (l.take (k+1))) (k+1) l[k] (by omega) w));clear Ac;generalize l[k]=c at *;by_cases hk9:((k:Int)==9)=true
   ·have hk9':k=9:=by have:(k:Int)=9:=(by simpa using hk9);omega
    by_cases ly:(c.toNat:Int) > 1
    ·have HE:=ae (HT.o hk9' (by omega))
     clear HT HL HN kJ hval Uk han hk9';go_wp2_with fail;go_ret3
     rw[HE.o];exact⟨rfl,rfl⟩
    ·have HJ:=ae (kJ (fun _=>by omega))
     have HF:=ae (HL.o (by omega) (fun _=>by omega));clear HT HL HN kJ hval Uk hk9';go_wp2_with fail;rw[HJ.o];refine(lA.o _).mono ?_;rintro e w1 ⟨rfl,rfl⟩
     have gD:jfb ((if c.toNat=0/\1<k+1 then kL .u64 0 0 31 else kL .u64 (val (l.take (k+1)):Int) (k+1) 0)=kL .u64 ((fy l).1:Int) (fy l).2.1 (fy l).2.2):=by
      show _=_
      rw[HF.o];by_cases h:c.toNat=0/\0<k
      ·rw[jdf h,jdf ⟨h.1,by omega⟩];rfl
      ·rw[jde h,jde (fun h1=>h ⟨h1.1,by omega⟩)]
     rw[gD.o];unfold kL;go_wp2_with fail;go_ret3
     exact⟨rfl,rfl⟩
   ·have hk9':((k:Int)==9)=false:=by simpa using hk9
    have hk8:k<=8:=by have:¬ (k:Int)=9:=(by simpa using hk9);omega
    have HJ:=ae (kJ (fun _=>by omega));clear hk9;by_cases ly:(c.toNat:Int)<128
    ·have HF:=ae (HL.o (by omega) (fun _=>by omega))
     clear HT HL HN kJ hval Uk;go_wp2_with fail;rw[HJ.o];refine(lA.o _).mono ?_;rintro e w1 ⟨rfl,rfl⟩
     have gD:jfb ((if c.toNat=0/\1<k+1 then kL .u64 0 0 31 else kL .u64 (val (l.take (k+1)):Int) (k+1) 0)=kL .u64 ((fy l).1:Int) (fy l).2.1 (fy l).2.2):=by
      show _=_
      rw[HF.o];by_cases h:c.toNat=0/\0<k
      ·rw[jdf h,jdf ⟨h.1,by omega⟩];rfl
      ·rw[jde h,jde (fun h1=>h ⟨h1.1,by omega⟩)]
     rw[gD.o];unfold kL;go_wp2_with fail;go_ret3
     exact⟨rfl,rfl⟩
    ·have HF:=ae (HN.o (by omega))
     clear HT HL HN kJ hval Uk;go_wp2_with fail;rw[HJ.o];go_roundw
     case rel=>exact⟨trivial,k+1,by omega,by omega,HF.o,by go_num,rfl⟩
     case measure=>simp[intOf];omega
  ·have HE:=ae (CQ Ac h9 aC)
   clear Ac;go_wp2_with fail;go_ret3
   rw[HE.o];exact⟨rfl,rfl⟩
theorem KS{w:World}{v:Value}{l:List UInt8}(h:Sl w v l):Calls Tryz.prog 180 #[v] w fun e w'=>e=kL .u64 ((fy l).1:Int) (fy l).2.1 (fy l).2.2/\w'=w:=by
 obtain⟨a,cap,rfl,h1,h2,h3⟩:=h;cases l with
 | nil=>exact Mj a cap w
 | cons x r =>
  obtain⟨b,off,rfl,_,h5⟩:=h3 (by simp);exact QK b off cap (x::r) w (by omega) h1 h5
theorem Mk{l:List UInt8}(h:¬ (9<=aT l/\9<l.length/\1<(l.getD 9 0).toNat))(hl:aT l<l.length):aT l<=9/\(aT l=9->l[aT l].toNat<=1):=by
 have h9:aT l<=9:=by
  rcases jdJ 9 (aT l)with h1 | h1
  ·exfalso
   apply h
   refine⟨by omega,by omega,?_⟩;rw[kQ (by omega)];have:=ny l 9 (by omega) h1;omega
  ·exact h1
 refine⟨h9,fun e=>?_⟩;have h3:¬ 1<(l.getD 9 0).toNat:=fun h2=>h ⟨by omega,by omega,h2⟩
 rw[kQ (by omega)]at h3;simp only[e];omega
theorem yW(l:List UInt8):(fy l).1<18446744073709551616/\(fy l).2.1<=l.length/\(fy l).2.1<=10/\((fy l).2.2=0∨(((fy l).2.2=30∨(fy l).2.2=31)/\(fy l).1=0/\(fy l).2.1=0)):=by
 have oV:=uV l;unfold fy;split
 ·simp
 ·rename_i h1
  split
  ·simp
  ·rename_i h2
   have hl:aT l<l.length:=(by omega);obtain⟨h9,ht⟩:=Mk h1 hl;split
   ·simp
   ·refine⟨QC h9 hl ht,?_,?_,Or.inl rfl⟩<;>simp only<;>omega
theorem QL{e:Nat}(h:e=0∨e=30∨e=31)(h0:¬ e=0):((e:Int) != 0)=true:=by simp;omega
theorem uW(n:Nat):aF .u8 (uv n)=aW (uvarint n):=vI _
theorem dI(n:Nat)(hn:n<18446744073709551616)(w:World):Calls Tryz.prog 119 #[.int .u64 (n:Int)] w (dw w (uv n)):=by
 refine(CV n hn w).mono ?_;rintro e w' ⟨⟨v,rfl,h⟩,hb⟩;exact⟨⟨v,rfl,by unfold aD;rw[uW,ms];exact h⟩,hb⟩
theorem bD(n:Nat)(hn:n<18446744073709551616)(w:World):Calls Tryz.prog 45 #[.int .u64 (n:Int)] w (dw w (uv n)):=by
 refine(vR n hn w).mono ?_;rintro e w' ⟨⟨v,rfl,h⟩,hb⟩;exact⟨⟨v,rfl,by unfold aD;rw[uW,ms];exact h⟩,hb⟩
theorem fS(b:List Nat):(gt b).1<18446744073709551616/\(gt b).2.1<=b.length/\(gt b).2.1<=10/\((gt b).2.2=0∨(((gt b).2.2=30∨(gt b).2.2=31)/\(gt b).1=0/\(gt b).2.1=0)):=by
 have:=yW (b.map Nat.toUInt8);rw[jdk]at this;exact this
theorem AJ{w:World}{a:Option Addr}{n cap:Nat}{b:List Nat}(hb:Bs b)(h:Sv w (.slice a n cap) (aF .u8 b)) :
  Calls Tryz.prog 180 #[.slice a n cap] w fun e w'=>e=kL .u64 ((gt b).1:Int) (gt b).2.1 (gt b).2.2/\w'=w:=KS (h.sl hb)
end Go.Proofs.YtpljdjmpamjkhaaGreatDoor
