import Derived.Test.YtpljdjmpamjkhaaGreatDoorYaw
import Derived.Test.YtpljdjmpamjkhaaGreatDoorYau
import Derived.Test.YtpljdjmpamjkhaaGreatDoorYap
import Derived.Deep.AppendLies
import Derived.Lib.SliceRun
set_option linter.unusedVariables false
set_option linter.unusedSimpArgs false
set_option maxRecDepth 100000
set_option maxHeartbeats 8000000
namespace Go.Proofs.YtpljdjmpamjkhaaGreatDoor
open Go.RowKit Go.Lib
theorem Lm{n:Int}(h:I64 n)(w:World):Calls Tryz.prog 133 #[.agg #[.int .u8 1,.int .i64 n,.string ⟨#[]⟩]] w (du w (wv n)):=by
 have HV:=ae (gU h);obtain⟨x0,x1,x2⟩:=dF w (.int .u8 1) (.int .i64 n) (.string ⟨#[]⟩) 52;have cC:=ae (ak w (.cells #[.int .u8 1,.int .i64 n,.string ⟨#[]⟩] 52));go_enter Tryz.func133,Tryz.ntmps133
 go_wp2_with fail;refine(HV.out _).mono ?_;rintro e w1 ⟨⟨v1,rfl,o1⟩,aG⟩;have HO:=ae o1;have HB:=ae aG;clear o1 aG;go_wp2_with fail;go_ret
 exact⟨⟨_,rfl,aZ HO.out cC.out.size⟩,ai cC.out HB.out⟩
theorem Ln{n:Nat}(h:n<2)(w:World):Calls Tryz.prog 133 #[.agg #[.int .u8 2,.int .i64 (n:Int),.string ⟨#[]⟩]] w (du w [n]):=by
 obtain⟨x0,x1,x2⟩:=dF w (.int .u8 2) (.int .i64 (n:Int)) (.string ⟨#[]⟩) 52;have Hj:IntKind.u8.wrap (n:Int)=(n:Int):=by rw[IntKind.wrap_u8];omega
 have cC:=ae (ak w (.cells #[.int .u8 2,.int .i64 (n:Int),.string ⟨#[]⟩] 52));have HL:=ae (cD (w.alloc (.cells #[.int .u8 2,.int .i64 (n:Int),.string ⟨#[]⟩] 52)) n);have aQ:=ae (ak (w.alloc (.cells #[.int .u8 2,.int .i64 (n:Int),.string ⟨#[]⟩] 52)) (.cells #[.int .u8 (n:Int)] 5));have hz:(w.alloc (.cells #[.int .u8 2,.int .i64 (n:Int),.string ⟨#[]⟩] 52)).heap.size=w.heap.size+1:=ZS _ _;go_enter Tryz.func133,Tryz.ntmps133
 go_wp2_with fail;go_ret
 have H1:=aZ HL.out cC.out.size;rw[hz]at H1;exact⟨⟨_,rfl,H1⟩,ai cC.out aQ.out⟩
theorem Dk{c:Cl}(h:aU c)(w:World):Calls Tryz.prog 133 #[.agg #[.int .u8 (c.1:Int),.int .i64 c.2.1,.string (am c.2.2)]] w (du w (gq c)):=by
 rcases h with rfl | ⟨n,rfl,h1⟩ | ⟨n,rfl,h1⟩ | ⟨s,rfl,h1,h2⟩
 ·have:=Dj (s:=[]) 0 0 (by decide) (by decide) (by simp) (fun x hx=>by simp at hx) w
  exact this
 ·have:=Lm h1 w
  exact this
 ·have:=Ln h1 w
  have e:gq ((2,(n:Int),[]):Cl)=[n]:=by
   unfold gq;rw[if_neg (by simp),if_pos (by simp)];simp only;congr 1
   omega
  rw[e];exact this
 ·have:=Dj (s:=s) 3 0 (by decide) (by decide) h1 h2 w
  exact this
theorem Dl(st:Stt)(w:World):Calls Tryz.prog 132 #[ua st] w fun e w'=>e=.returned (.int .u8 (xO st:Int))/\Below w.heap.size w w':=by
 obtain⟨r,n,so,hi,lo,hh⟩:=st;unfold ua xO
 have hc:∀ i,i<10->(w.alloc (.cells #[.int .i64 r,.int .i64 n,.bool so,.bool hi,.int .u8 (lo.1:Int),.int .i64 lo.2.1,.string (am lo.2.2),.int .u8 (hh.1:Int),.int .i64 hh.2.1,.string (am hh.2.2)] 54)).cell? ⟨w.heap.size,i,none⟩=(celS ⟨r,n,so,hi,lo,hh⟩)[i]?:=fun i hi=>by
  rw[ax (heap_alloc_new w _)];simp[celS]
 have c2:=hc 2 (by omega);have c3:=hc 3 (by omega);simp only[celS,List.getElem?_cons_succ,List.getElem?_cons_zero]at c2 c3;have HB:=ae (ak w (.cells #[.int .i64 r,.int .i64 n,.bool so,.bool hi,.int .u8 (lo.1:Int),.int .i64 lo.2.1,.string (am lo.2.2),.int .u8 (hh.1:Int),.int .i64 hh.2.1,.string (am hh.2.2)] 54));clear hc;cases so<;>cases hi
 all_goals
  go_enter Tryz.func132,Tryz.ntmps132
  go_wp2_with fail;go_ret
  exact⟨by first | rfl | kernel_rfl,HB.out⟩
theorem zm{w:World}{v:Value}{l:List Fd}(hs:Sf w v l)(id:Nat):Calls Tryz.prog 77 #[.agg #[.int .u32 (id:Int),v]] w fun e w'=>e=.returned (.int .i64 (chk id l:Int))/\Below w.heap.size w w':=by
 obtain⟨a,cap,rfl,aX,bw⟩:=hs.form;have cC:=ae (ak w (.cells #[.int .u32 (id:Int),.slice a l.length cap] 25));have HS:=ae (hs.kept (ak w (.cells #[.int .u32 (id:Int),.slice a l.length cap] 25)));obtain⟨c0,c1⟩:=bE w (.int .u32 (id:Int)) (.slice a l.length cap) 25;have hz:w.heap.size<(w.alloc (.cells #[.int .u32 (id:Int),.slice a l.length cap] 25)).heap.size:=by rw[ZS];omega
 clear hs;by_cases h1:id=0∨l.length=0∨8<l.length
 ·have HR:Hid (chk id l=1):=ae (if_pos h1)
  clear c0 c1 hz HS;by_cases q1:id=0
  ·subst q1
   go_enter Tryz.func77,Tryz.ntmps77
   go_wp2_with fail;go_ret
   rw[HR.out];exact⟨rfl,cC.out⟩
  ·have q1':((id:Int)==0)=false:=by simp[q1]
   by_cases q2:l.length=0
   ·have q2':((l.length:Int)==0)=true:=by simp[q2]
    clear h1 q1 q2;go_enter Tryz.func77,Tryz.ntmps77
    go_wp2_with fail;go_ret
    rw[HR.out];exact⟨rfl,cC.out⟩
   ·have q2':((l.length:Int)==0)=false:=by simp[q2]
    have q3:(l.length:Int) > 8:=by omega
    clear h1 q1 q2;go_enter Tryz.func77,Tryz.ntmps77
    go_wp2_with fail;go_ret
    rw[HR.out];exact⟨rfl,cC.out⟩
 ·have HR:Hid (chk id l=fe (l.take 0) (l.drop 0)):=ae (if_neg h1)
  have q1':((id:Int)==0)=false:=Z1.2 (by omega);have q2':((l.length:Int)==0)=false:=Z1.2 (by omega);have q3:¬ (l.length:Int) > 8:=by omega
  have hl8:l.length<=8:=by omega
  clear h1;generalize hW:w.alloc (.cells #[.int .u32 (id:Int),.slice a l.length cap] 25)=W at *;go_enter Tryz.func77,Tryz.ntmps77
  go_wp2_with fail;try rw[hW]
  clear hW;go_loopw [24] (fun i wr=>∃ k:Nat,k<=l.length/\i=.int .i64 (k:Int)/\chk id l=fe (l.take k) (l.drop k)/\Below W.heap.size W wr) (fun i _=>l.length-(intOf i).toNat)
  case atStart=>exact⟨0,by omega,rfl,HR.out,ZQ _ _⟩
  case round =>
   obtain⟨k,hk,rfl,lq,ay⟩:=hrel;have HF:=ae lq;have HB:=ae ay;have bO:=ay.size;clear lq ay HR;by_cases aB:k<l.length
   ·obtain⟨b,off,rfl,hb,x0,x1,x2,x3⟩:=(HS.out.kept HB.out).at aB
    have HT:=ae (HF.out.trans (Jk aB));have hlt':(k:Int)<(l.length:Int):=by omega
    have hkc:(k:Int)<=(cap:Int):=by omega
    have X3:(0:Int)<=(k:Int):=by omega
    have hktn:((k:Int)).toNat=k:=by omega
    have hdcap:¬ cap=0:=by omega
    have cP:=ae (HS.out.take (k:=k) (by omega));generalize l[k]=f at *;obtain⟨f0,f1,f2,f3⟩:=f;simp only at *;have d1:=(HB.out.cell (p:=⟨w.heap.size,1,none⟩) hz).trans c1;have qb:=ak wr (.cells #[.int .u32 (f0:Int),.string f1,.int .u8 (f2:Int),.bool f3] 81);have e1:=(qb.cell (p:=⟨w.heap.size,1,none⟩) (Z9 hz bO)).trans d1;obtain⟨g0,g1,g2,g3⟩:=iU wr (.int .u32 (f0:Int)) (.string f1) (.int .u8 (f2:Int)) (.bool f3) 81;have aN:=ae (HB.out.trans (qb.mono bO));have Ho:=ae (fun m=>FM (vX ((cP.out.kept HB.out).kept qb) m) (f0,f1,f2,f3));unfold pI at Ho;simp only at Ho;generalize fW (l.take k) (f0,f1,f2,f3)=R at *;have jq:(wr.alloc (.cells #[.int .u32 (f0:Int),.string f1,.int .u8 (f2:Int),.bool f3] 81)).heap.size=wr.heap.size+1:=ZS _ _;clear qb;go_wp2_with fail;generalize hV:wr.alloc (.cells #[.int .u32 (f0:Int),.string f1,.int .u8 (f2:Int),.bool f3] 81)=V at *;clear hV x0 x1 x2 x3
    have ei:Hid (∀ n W',Below V.heap.size (V.drewN n) W'->(W'.cell? ⟨w.heap.size,1,none⟩=some (.slice (some ⟨b,off,none⟩) l.length cap)/\W'.cell? ⟨wr.heap.size,0,none⟩=some (.int .u32 (f0:Int))/\W'.cell? ⟨wr.heap.size,1,none⟩=some (.string f1)/\W'.cell? ⟨wr.heap.size,2,none⟩=some (.int .u8 (f2:Int))/\W'.cell? ⟨wr.heap.size,3,none⟩=some (.bool f3))/\Below W.heap.size W W'):=ae (fun n W' h=>by
     have hb':Below V.heap.size V W':=(below_drewN (ZQ _ _) n).trans h;exact⟨⟨(hb'.cell (p:=⟨w.heap.size,1,none⟩) (show w.heap.size<_ by omega)).trans e1,(hb'.cell (p:=⟨wr.heap.size,0,none⟩) (show wr.heap.size<_ by omega)).trans g0,(hb'.cell (p:=⟨wr.heap.size,1,none⟩) (show wr.heap.size<_ by omega)).trans g1,(hb'.cell (p:=⟨wr.heap.size,2,none⟩) (show wr.heap.size<_ by omega)).trans g2,(hb'.cell (p:=⟨wr.heap.size,3,none⟩) (show wr.heap.size<_ by omega)).trans g3⟩,aN.out.trans (hb'.mono aN.out.size)⟩)
    go_region_held3 (fun w'=>w'.cell? ⟨w.heap.size,1,none⟩=some (.slice (some ⟨b,off,none⟩) l.length cap)/\w'.cell? ⟨wr.heap.size,0,none⟩=some (.int .u32 (f0:Int))/\w'.cell? ⟨wr.heap.size,1,none⟩=some (.string f1)/\w'.cell? ⟨wr.heap.size,2,none⟩=some (.int .u8 (f2:Int))/\w'.cell? ⟨wr.heap.size,3,none⟩=some (.bool f3)) (first | assumption | go_keep) (first | (go_at_call 116;refine(Ho.out _).mono ?_;rintro e w2 ⟨rfl,aD⟩;obtain⟨EP,xw⟩:=ei.out _ _ aD;have fZ:=ae xw;clear xw aD))
    clear EP e1 g0 g1 g2 g3 d1 c0 c1;by_cases hR:R=0
    ·rw[if_pos hR]at HT
     subst hR;go_wp2_with fail;go_roundw
     case rel=>exact⟨k+1,by omega,by go_num,HT.out,fZ.out⟩
     case measure=>simp[intOf];omega
    ·rw[if_neg hR]at HT
     have hR':((R:Int) != 0)=true:=by simp[hR]
     clear hR;go_wp2_with fail;go_ret
     rw[HT.out];exact⟨rfl,ai cC.out fZ.out⟩
   ·obtain rfl:k=l.length:=by omega
    have gJ:¬ ((l.length:Nat):Int)<(l.length:Int):=by omega
    have HT:=ae (HF.out.trans (Ng l));clear HF;go_wp2_with fail;go_ret
    rw[HT.out];exact⟨rfl,ai cC.out HB.out⟩
theorem Gg{w:World}{v:Value}{l:List Fd}(hs:Sf w v l)(hl:l.length<=1000) :
  Calls Tryz.prog 55 #[v] w fun e w'=>(∃ v',e=.returned v'/\dR w' w.heap.size v' l)/\Below w.heap.size w w':=by
 have HS:=ae hs;obtain⟨ad,cap,rfl,h1,h2,h3,_⟩:=hs;cases ad with
 | none =>
  have hc:=h3 rfl;subst hc;have pZ:l=[]:=jab (by omega);subst pZ;have hq:(binOp .eql 23 (.slice none 0 0) (.slice none 0 0)).run Tryz.prog w=.ok (.bool true) w:=run_eql_slice_nil w 23 81 none 0 0 0 0 Tryz.underlying23;go_enter Tryz.func55,Tryz.ntmps55
  go_wp2_with fail;go_ret
  exact⟨⟨_,rfl,dR.nil _ _⟩,ZQ _ _⟩
 | some ad =>
  have HN:Hid (dR (w.alloc (.cells #[] 81)) w.heap.size (.slice (some ⟨w.heap.size,0,none⟩) 0 0) []):=ae (pJ w [] (by unfold maxLen;simp));have gC:=ae (HS.out.kept (ak w (.cells #[] 81)));clear h3;have hq:(binOp .eql 23 (.slice (some ad) l.length cap) (.slice none 0 0)).run Tryz.prog w=.ok (.bool false) w:=run_eql_slice_nil w 23 81 (some ad) l.length cap 0 0 Tryz.underlying23;go_enter Tryz.func55,Tryz.ntmps55
  go_wp2_with (first | (at_builtin;refine sd rfl _ _ rfl w.heap.size _ _ [] l rfl ?q1 rfl ?q2 ?c1 ?c2 ?_))
  case q1=>exact HN.out
  case q2=>exact gC.out
  case c1=>simp;omega
  case c2=>rw[ZS];omega
  intro v3 w3 o3 aP;have cX:=ae o3;have bM:=ae ((ak w (.cells #[] 81)).trans aP);clear o3 aP;go_wp2_with fail;go_ret
  exact⟨⟨_,rfl,cX.out⟩,bM.out⟩
theorem ll{w:World}{ops:Array Oper}{o:Oper}{a:Act}{K:Act->World->Prop}{Q:Exit->Act->World->Prop}{E:Prop}(ee:o.guard=none)(s x:Operand)
  (ho:o.op=.call { callee:=.builtin .append,args:=#[s,x],argTypes:=#[23,23] })
  (base B2:Nat) (v vx:Value) (l0 l:List Fd) (hs:a.eval s=v) (az:dR w base v l0) (hx:a.eval x=vx) (fo:dR w B2 vx l) (hp:0<l.length)
  (hbytes:l0.length+l.length<=100000) (aH:base<=w.heap.size)
  (h:∀ v' w',dR w' base v' (l0++l)->Below base w w'->K (a.put o.dst v') w') :
  if Region.wanted o (yielded ops a.tmps)=true then Oper.wp Tryz.prog o a w K Q else E:=by
 obtain⟨i0,hi,ce,hz1',bm⟩:=info_parts Py;unfold dR at fo;obtain⟨g,cap,rfl,hB,hg⟩:=World.ownsRow.form fo hp;have hc:∀ j u,(eB l)[j]?=some u->w.cell? ((⟨g,0,none⟩:Addr).add j)=some u:=fun j u hj=>fo.cells (g:=g) rfl j u hj
 unfold dR at az;refine step_append_lies (P:=Tryz.prog) w ee s x 23 ho base 81 i0 (.agg #[.int .u32 0,.string ⟨#[]⟩,.int .u8 0,.bool false]) 4 32 Tryz.underlying23 hi ce hz1' bm rfl (by decide) v l0.length (eB l0) hs az ⟨g,0,none⟩ l.length cap (eB l) hx (by rw[io]) hc (oU _) hp (by unfold maxLen;omega) (by omega) aH _ rfl ?_;intro g' cap' w' o1 g1 _ _;refine h _ w' ?_ ((ZQ base w).grown g1 aH (fun k hk=>(az.lt k hk).1));unfold dR;rw[qG,ZT];exact o1
theorem qS{B:Nat}{w:World}(h:B<=w.heap.size)(o:Obj):B<=(w.alloc o).heap.size:=by rw[ZS];omega
theorem pP{w w1:World}{B p:Nat}(h:Below B w w1)(hp:B<=p)(x y:Value):Below B w ((w1.setCell ⟨p,0,none⟩ x).setCell ⟨p,1,none⟩ y):=(h.setCell hp _).setCell hp _
theorem Dm{w1:World}{B p:Nat}{v:Value}{l:List Fd}(h:dR w1 B v l)(hp:p<B)(x y:Value):dR ((w1.setCell ⟨p,0,none⟩ x).setCell ⟨p,1,none⟩ y) B v l :=
 Fr.own (((Fr.refl p w1.heap.size w1).set 0 x).set 1 y) h hp
theorem lT{c:Cl}(h:aU c):(gq c).length<=74:=by
 have hl:=h.size;unfold gq;split
 ·rcases h with rfl | ⟨n,rfl,h1⟩ | ⟨n,rfl,h1⟩ | ⟨s,rfl,h1,h2⟩<;>first | (have:=fd h1;unfold wv at this;simp only;omega) | (simp_all [nul])
 ·split
  ·simp
  ·have:=bI (n:=c.2.2.length) (by omega)
   rw[ZT];omega
theorem TV(st:Stt):xO st<4:=by unfold xO;split<;>split<;>omega
theorem nA{st:Stt}(h1:aU st.lo)(h2:aU st.hi)(hn:∃ n:Nat,st.nulls=(n:Int)/\n<=1000000)(w:World):Calls Tryz.prog 84 #[ua st] w (du w (es st)):=by
 obtain⟨n,hn,VU⟩:=hn;obtain⟨r,nu,so,hi,lo,hh⟩:=st;simp only at hn h1 h2;subst hn;have HC0:=ae (pO n (by omega));have M4:=ae (Dl ⟨r,(n:Int),so,hi,lo,hh⟩);have VK:=ae (Dk h1);have Zs:=ae (Dk h2);have VM:=lT h1;have Bo:=lT h2;have hu:=bI (n:=n) (by omega);have HE:Hid (es ⟨r,(n:Int),so,hi,lo,hh⟩=uv n++[xO ⟨r,(n:Int),so,hi,lo,hh⟩]++((if so=true then gq lo else [])++(if hi=true then gq hh else []))):=ae (by unfold es;rw[jah]);unfold ua at M4 ⊢;have cC:=ae (ak w (.cells #[.int .i64 r,.int .i64 (n:Int),.bool so,.bool hi,.int .u8 (lo.1:Int),.int .i64 lo.2.1,.string (am lo.2.2),.int .u8 (hh.1:Int),.int .i64 hh.2.1,.string (am hh.2.2)] 54));have hz:w.heap.size<(w.alloc (.cells #[.int .i64 r,.int .i64 (n:Int),.bool so,.bool hi,.int .u8 (lo.1:Int),.int .i64 lo.2.1,.string (am lo.2.2),.int .u8 (hh.1:Int),.int .i64 hh.2.1,.string (am hh.2.2)] 54)).heap.size:=by rw[ZS];omega
 have jN:=heap_alloc_new w (.cells #[.int .i64 r,.int .i64 (n:Int),.bool so,.bool hi,.int .u8 (lo.1:Int),.int .i64 lo.2.1,.string (am lo.2.2),.int .u8 (hh.1:Int),.int .i64 hh.2.1,.string (am hh.2.2)] 54);generalize hW:w.alloc (.cells #[.int .i64 r,.int .i64 (n:Int),.bool so,.bool hi,.int .u8 (lo.1:Int),.int .i64 lo.2.1,.string (am lo.2.2),.int .u8 (hh.1:Int),.int .i64 hh.2.1,.string (am hh.2.2)] 54)=W at *;generalize lo.1=l0 at *;generalize lo.2.1=l1 at *;generalize am lo.2.2=l2 at *;generalize hh.1=h0 at *;generalize hh.2.1=h1' at *;generalize am hh.2.2=h2' at *
 have HT:Hid (∀ U,Below W.heap.size W U->U.cell? ⟨w.heap.size,0,none⟩=some (.int .i64 r)/\U.cell? ⟨w.heap.size,1,none⟩=some (.int .i64 (n:Int))/\U.cell? ⟨w.heap.size,2,none⟩=some (.bool so)/\U.cell? ⟨w.heap.size,3,none⟩=some (.bool hi)/\U.cell? ⟨w.heap.size,4,none⟩=some (.int .u8 (l0:Int))/\U.cell? ⟨w.heap.size,5,none⟩=some (.int .i64 l1)/\U.cell? ⟨w.heap.size,6,none⟩=some (.string l2)/\U.cell? ⟨w.heap.size,7,none⟩=some (.int .u8 (h0:Int))/\U.cell? ⟨w.heap.size,8,none⟩=some (.int .i64 h1')/\U.cell? ⟨w.heap.size,9,none⟩=some (.string h2')):=ae (fun U hb=>by
  have hU:=(hb.block w.heap.size hz).trans jN;refine⟨?_,?_,?_,?_,?_,?_,?_,?_,?_,?_⟩<;>(rw[ax hU];rfl))
 clear jN
 have HC:Hid (∀ U,Below W.heap.size W U->Calls Tryz.prog 81 #[.int .i64 (n:Int)] U fun e w'=>∃ v,e=.returned v/\aC w' W.heap.size v (uv n)/\Below U.heap.size U w'/\Below W.heap.size W w'/\(w'.cell? ⟨w.heap.size,0,none⟩=some (.int .i64 r)/\w'.cell? ⟨w.heap.size,1,none⟩=some (.int .i64 (n:Int))/\w'.cell? ⟨w.heap.size,2,none⟩=some (.bool so)/\w'.cell? ⟨w.heap.size,3,none⟩=some (.bool hi)/\w'.cell? ⟨w.heap.size,4,none⟩=some (.int .u8 (l0:Int))/\w'.cell? ⟨w.heap.size,5,none⟩=some (.int .i64 l1)/\w'.cell? ⟨w.heap.size,6,none⟩=some (.string l2)/\w'.cell? ⟨w.heap.size,7,none⟩=some (.int .u8 (h0:Int))/\w'.cell? ⟨w.heap.size,8,none⟩=some (.int .i64 h1')/\w'.cell? ⟨w.heap.size,9,none⟩=some (.string h2'))):=ae (fun U hU=>by
  refine(HC0.out U).mono ?_;rintro e w' ⟨⟨v,rfl,ho⟩,hb⟩;have aD:=ai hU hb;exact⟨v,rfl,aZ ho hU.size,hb,aD,HT.out _ aD⟩)
 have HF:Hid (∀ U,Below W.heap.size W U->Calls Tryz.prog 132 #[.agg #[.int .i64 r,.int .i64 (n:Int),.bool so,.bool hi,.int .u8 (l0:Int),.int .i64 l1,.string l2,.int .u8 (h0:Int),.int .i64 h1',.string h2']] U fun e w'=>e=.returned (.int .u8 (xO ⟨r,(n:Int),so,hi,lo,hh⟩:Int))/\Below U.heap.size U w'/\Below W.heap.size W w'/\(w'.cell? ⟨w.heap.size,0,none⟩=some (.int .i64 r)/\w'.cell? ⟨w.heap.size,1,none⟩=some (.int .i64 (n:Int))/\w'.cell? ⟨w.heap.size,2,none⟩=some (.bool so)/\w'.cell? ⟨w.heap.size,3,none⟩=some (.bool hi)/\w'.cell? ⟨w.heap.size,4,none⟩=some (.int .u8 (l0:Int))/\w'.cell? ⟨w.heap.size,5,none⟩=some (.int .i64 l1)/\w'.cell? ⟨w.heap.size,6,none⟩=some (.string l2)/\w'.cell? ⟨w.heap.size,7,none⟩=some (.int .u8 (h0:Int))/\w'.cell? ⟨w.heap.size,8,none⟩=some (.int .i64 h1')/\w'.cell? ⟨w.heap.size,9,none⟩=some (.string h2'))):=ae (fun U hU=>by
  refine(M4.out U).mono ?_;rintro e w' ⟨rfl,hb⟩;have aD:=ai hU hb;exact⟨rfl,hb,aD,HT.out _ aD⟩)
 clear HC0 M4;generalize xO ⟨r,(n:Int),so,hi,lo,hh⟩=fg at *;generalize uv n=P at *;obtain⟨x0,x1,x2,x3,x4,x5,x6,x7,x8,x9⟩:=HT.out W (ZQ _ _);go_enter Tryz.func84,Tryz.ntmps84
 go_wp2_with fail;try rw[hW]
 clear hW;have hBW:Below W.heap.size W W:=ZQ _ _
 go_region_held3 (fun w'=>w'.cell? ⟨w.heap.size,0,none⟩=some (.int .i64 r)/\w'.cell? ⟨w.heap.size,1,none⟩=some (.int .i64 (n:Int))/\w'.cell? ⟨w.heap.size,2,none⟩=some (.bool so)/\w'.cell? ⟨w.heap.size,3,none⟩=some (.bool hi)/\w'.cell? ⟨w.heap.size,4,none⟩=some (.int .u8 (l0:Int))/\w'.cell? ⟨w.heap.size,5,none⟩=some (.int .i64 l1)/\w'.cell? ⟨w.heap.size,6,none⟩=some (.string l2)/\w'.cell? ⟨w.heap.size,7,none⟩=some (.int .u8 (h0:Int))/\w'.cell? ⟨w.heap.size,8,none⟩=some (.int .i64 h1')/\w'.cell? ⟨w.heap.size,9,none⟩=some (.string h2')) (first | (refine⟨?_,?_,?_,?_,?_,?_,?_,?_,?_,?_⟩<;>assumption) | go_keep) (first
  | (go_at_call 81;refine(HC.out _ ?_).mono ?_;(first | exact below_drewN hBW _ | exact below_drewN Ja _ | exact Ja);rintro e w2 ⟨v2,rfl,fq,aD,RE,⟨y0,y1,y2,y3,y4,y5,y6,y7,y8,y9⟩⟩;have dr:=ae fq;clear fq)
  | (go_at_call 132;refine(HF.out _ ?_).mono ?_;(first | exact below_drewN RE _ | exact RE);rintro e w3 ⟨rfl,aP,Ja,⟨z0,z1,z2,z3,z4,z5,z6,z7,z8,z9⟩⟩;have cX:=ae (dr.out.kept aP);clear dr aP)
  | (go_at_call 132;refine(HF.out _ ?_).mono ?_;(first | exact below_drewN hBW _ | exact below_drewN RE _ | exact RE);rintro e w3 ⟨rfl,aP,Ja,⟨z0,z1,z2,z3,z4,z5,z6,z7,z8,z9⟩⟩)
  | (refine vZ (by rfl) _ _ (by rfl) W.heap.size _ _ P [fg] (by rfl) ?_ (by rfl) ?_ ?_ ?_ ?_;exact cX.out.kept (ak _ _);exact(cD _ fg).sv;(simp only[jan];omega);exact ZZ Ja.size (qS (ZR _) _);intro v4 w4 o4 b4 g4 e4;have bv:=(Ja.alloc Ja.size _).trans b4;obtain⟨q0,q1,q2,q3,q4,q5,q6,q7,q8,q9⟩:=HT.out _ bv;have eP:=ae o4;have b9:=ae bv;clear g4 e4 b4 bv o4)
  | fail)
 clear y0 y1 y2 y3 y4 y5 y6 y7 y8 y9 z0 z1 z2 z3 z4 z5 z6 z7 z8 z9 x0 x1 x2 x3 x4 x5 x6 x7 x8 x9 aD RE Ja HC HF cX;have hPl:P.length<=10:=hu
 have Bw:Hid (∀(so' hi':Bool) v' w',so=so'->hi=hi'->aC w' W.heap.size v' (P++[fg]++(if so'=true then gq lo else [])++(if hi'=true then gq hh else []))->Below W.heap.size W w'->du w (es ⟨r,(n:Int),so,hi,lo,hh⟩) (.returned v') w'):=ae (fun so' hi' v' w' e1 e2 ho hb=>by
  rw[HE.out,e1,e2];refine⟨⟨_,rfl,aZ ?_ cC.out.size⟩,ai cC.out hb⟩;have h9:=ho;rw[Z4]at h9;exact h9)
 have hx:(so=true∨so=false):=by cases so<;>simp
 rcases hx with RG | RG
 all_goals (have hy:(hi=true∨hi=false):=by cases hi<;>simp)
 all_goals rcases hy with Hl | Hl
 ·rw[RG]at q2
  rw[Hl]at q3;go_wp2_with fail;refine(VK.out _).mono ?_;rintro e w5 ⟨⟨v5,rfl,o5⟩,bq⟩;have dH:=ae (eP.out.kept bq);have rI:=ae o5.sv;have aR:=ae (ai b9.out bq);clear o5 bq q0 q1 q2 q3 q4 q5 q6 q7 q8 q9;go_wp2_with (first | (at_builtin;refine aT rfl _ _ rfl W.heap.size _ _ (P++[fg]) (gq lo) rfl dH.out rfl rI.out ?d1a ?d1b ?_))
  case d1a=>simp only[ZT,jan];omega
  case d1b=>exact aR.out.size
  intro v6 w6 o6 b6 _ _;have dN:=aR.out.trans b6;obtain⟨q0,q1,q2,q3,q4,q5,q6,q7,q8,q9⟩:=HT.out _ dN;have mU:Hid (aC w6 W.heap.size v6 (P++[fg]++gq lo)):=ae (by simpa using o6);have i5:=ae dN;clear o6 b6 dN;rw[Hl]at q3;go_wp2_with fail;refine(Zs.out _).mono ?_;rintro e w7 ⟨⟨v7,rfl,o7⟩,jd⟩;have iw:=ae (mU.out.kept jd);have MW:=ae o7.sv;have ia:=ae (ai i5.out jd);clear o7 jd q0 q1 q2 q3 q4 q5 q6 q7 q8 q9;go_wp2_with (first | (at_builtin;refine aT rfl _ _ rfl W.heap.size _ _ (P++[fg]++gq lo) (gq hh) rfl iw.out rfl MW.out ?d2a ?d2b ?_))
  case d2a=>simp only[ZT,jan];omega
  case d2b=>exact ia.out.size
  intro v8 w8 o8 b8 _ _;have kA:=ia.out.trans b8;obtain⟨q0,q1,q2,q3,q4,q5,q6,q7,q8,q9⟩:=HT.out _ kA;have XM:Hid (aC w8 W.heap.size v8 (P++[fg]++gq lo++gq hh)):=ae (by simpa using o8);have p6:=ae kA;clear o8 b8 kA;go_wp2_with fail;go_ret
  refine Bw.out true true _ _ RG Hl ?_ p6.out;have h9:=XM.out;simpa using h9
 ·rw[RG]at q2
  rw[Hl]at q3;go_wp2_with fail;refine(VK.out _).mono ?_;rintro e w5 ⟨⟨v5,rfl,o5⟩,bq⟩;have dH:=ae (eP.out.kept bq);have rI:=ae o5.sv;have aR:=ae (ai b9.out bq);clear o5 bq q0 q1 q2 q3 q4 q5 q6 q7 q8 q9;go_wp2_with (first | (at_builtin;refine aT rfl _ _ rfl W.heap.size _ _ (P++[fg]) (gq lo) rfl dH.out rfl rI.out ?d3a ?d3b ?_))
  case d3a=>simp only[ZT,jan];omega
  case d3b=>exact aR.out.size
  intro v6 w6 o6 b6 _ _;have dN:=aR.out.trans b6;obtain⟨q0,q1,q2,q3,q4,q5,q6,q7,q8,q9⟩:=HT.out _ dN;have mU:Hid (aC w6 W.heap.size v6 (P++[fg]++gq lo)):=ae (by simpa using o6);have i5:=ae dN;clear o6 b6 dN;rw[Hl]at q3;go_wp2_with fail;go_ret
  refine Bw.out true false _ _ RG Hl ?_ i5.out;have h9:=mU.out;simpa using h9
 ·rw[RG]at q2
  rw[Hl]at q3;go_wp2_with fail;refine(Zs.out _).mono ?_;rintro e w5 ⟨⟨v5,rfl,o5⟩,bq⟩;have dH:=ae (eP.out.kept bq);have rI:=ae o5.sv;have aR:=ae (ai b9.out bq);clear o5 bq q0 q1 q2 q3 q4 q5 q6 q7 q8 q9;go_wp2_with (first | (at_builtin;refine aT rfl _ _ rfl W.heap.size _ _ (P++[fg]) (gq hh) rfl dH.out rfl rI.out ?d4a ?d4b ?_))
  case d4a=>simp only[ZT,jan];omega
  case d4b=>exact aR.out.size
  intro v6 w6 o6 b6 _ _;have dN:=aR.out.trans b6;obtain⟨q0,q1,q2,q3,q4,q5,q6,q7,q8,q9⟩:=HT.out _ dN;have mU:Hid (aC w6 W.heap.size v6 (P++[fg]++gq hh)):=ae (by simpa using o6);have i5:=ae dN;clear o6 b6 dN;go_wp2_with fail;go_ret
  refine Bw.out false true _ _ RG Hl ?_ i5.out;have h9:=mU.out;simpa using h9
 ·rw[RG]at q2
  rw[Hl]at q3;go_wp2_with fail;go_ret
  refine Bw.out false false _ _ RG Hl ?_ b9.out;have h9:=eP.out;simpa using h9
end Go.Proofs.YtpljdjmpamjkhaaGreatDoor
