import Derived.Test.YtpljdjmpamjkhaaGreatDoorYam
import Derived.Test.YtpljdjmpamjkhaaGreatDoorYay
import Derived.Test.YtpljdjmpamjkhaaGreatDoorYbi
import Derived.Test.YtpljdjmpamjkhaaGreatDoorYan
import Derived.Test.YtpljdjmpamjkhaaGreatDoorYbw
import Derived.Lib.AppendStr
set_option linter.unusedVariables false
set_option linter.unusedSimpArgs false
set_option maxRecDepth 100000
set_option maxHeartbeats 8000000
namespace Go.Proofs.YtpljdjmpamjkhaaGreatDoor
open Go.RowKit Go.Lib
def rr(x:List Nat)(u pre:List (List Nat))(d:Bool)(k:Nat):Prop:=pre++(if d then u.drop k else jv x (u.drop k))=jv x u
theorem rr.step{x:List Nat}{u pre:List (List Nat)}{d:Bool}{k:Nat}(h:rr x u pre d k)(hk:k<u.length) :
  (d=true->rr x u (pre++[u[k]]) true (k+1))/\(d=false->u[k]=x->rr x u (pre++[u[k]]) true (k+1))/\(d=false->x<u[k]->rr x u ((pre++[x])++[u[k]]) true (k+1))/\(d=false->u[k]≠x->¬ x<u[k]->rr x u (pre++[u[k]]) false (k+1)):=by
 unfold rr at *;rw[jar hk]at h;refine⟨fun hd=>?_,fun hd he=>?_,fun hd he=>?_,fun hd he hn=>?_⟩
 ·subst hd
  rw[if_pos rfl]at h ⊢;rw[← h];simp
 ·subst hd
  rw[if_neg (by simp),jv,if_pos he.symm]at h;rw[if_pos rfl,← h];simp
 ·subst hd
  rw[if_neg (by simp),jv,if_neg (fun e=>jbe u[k] (by rw[e]at he;exact he)),if_pos he]at h;rw[if_pos rfl,← h];simp
 ·subst hd
  rw[if_neg (by simp),jv,if_neg (fun e=>he e.symm),if_neg hn]at h;rw[if_neg (by simp),← h];simp
theorem rr.last{x:List Nat}{u pre:List (List Nat)}{d:Bool}(h:rr x u pre d u.length):(d=true->pre=jv x u)/\(d=false->pre++[x]=jv x u):=by
 unfold rr at h;rw[jaE]at h;refine⟨fun hd=>?_,fun hd=>?_⟩
 ·subst hd
  simpa using h
 ·subst hd
  simpa [jv]using h
theorem rr.len{x:List Nat}{u pre:List (List Nat)}{d:Bool}{k:Nat}(h:rr x u pre d k):pre.length<=u.length+1:=by
 unfold rr at h;have h1:=congrArg List.length h;have h2:=ni (x:=x) (u:=u);rw[ZT]at h1;omega
theorem tK{w:World}{v:Value}{l:List (List Nat)}(hs:Sv w v (cy l))(hl:l.length<=256)(hb:∀ s∈l,Bs s) :
  Calls Tryz.prog 89 #[v] w fun e w'=>(∃ v',e=.returned v'/\eD w' w.heap.size v' (tuq l))/\Below w.heap.size w w':=by
 have HS:=ae hs;have tS:=ae hb;obtain⟨a,cap,rfl,aX,bw⟩:=hs.form1;rw[dE]at *;have hcm':cap<=9223372036854775807:=by unfold maxLen at bw;omega
 clear hs bw hb;go_enter Tryz.func89,Tryz.ntmps89
 go_wp2_with fail;go_loopw [3,4] (fun vo i wr=>∃ k:Nat,k<=l.length/\i=.int .i64 (k:Int)/\eD wr w.heap.size vo (tuq (l.take k))/\Below w.heap.size w wr) (fun _ i _=>l.length-(intOf i).toNat)
 case atStart=>exact⟨0,by omega,rfl,eD.nil _ _,ZQ _ _⟩
 case round =>
  obtain⟨i,hi,rfl,how,ay⟩:=hrel;have HO:=ae how;have HB:=ae ay;have bO:=ay.size;obtain⟨ao,co,rfl,hco,hcom⟩:=aM how;have hcom':co<=9223372036854775807:=by unfold maxLen at hcom;omega
  clear how ay;by_cases aB:i<l.length
  ·have mF:(i:Int)<(l.length:Int):=by omega
   have HU:=ae (xF aB);have uj:=fE (l.take i);rw[ZX]at uj;obtain⟨bl,offl,rfl,fM,eO⟩:=(HS.out.kept HB.out).at1 (cJ aB);rw[ek]at eO;have l8:=ae (tS.out l[i] (ZV aB));have YL:Hid (∀ s∈tuq (l.take i),Bs s):=ae (fun s hs=>tS.out s (jaw (ja.1 hs)));generalize l[i]=x at *;generalize tuq (l.take i)=u at *;have Rr:u.length<=256:=by omega
   generalize wr=W1 at *;go_wp2_with fail;go_loopw [5,6,7] (fun vn vd j wq=>∃(k:Nat) (pre:List (List Nat)) (d:Bool),k<=u.length/\j=.int .i64 (k:Int)/\vd=.bool d/\eD wq W1.heap.size vn pre/\rr x u pre d k/\Below W1.heap.size W1 wq) (fun _ _ j _=>u.length-(intOf j).toNat)
   case atStart=>exact⟨0,[],false,by omega,rfl,rfl,eD.nil _ _,rfl,ZQ _ _⟩
   case round =>
    obtain⟨k,pre,d,hk,rfl,rfl,XS,XT,ur⟩:=hrel;have zH:=ae XS;have XU:=ae XT;have oJ:=ae ur;have yg:=ur.size;have kD:=XT.len;obtain⟨an,cn,rfl,_,_⟩:=aM XS;clear XS XT ur;have eW:Hid (∀ n z,Below W1.heap.size W1 ((wr.drewN n).alloc (.cells #[.string (am z)] 9))):=fun n z=>(below_drewN oJ.out n).alloc yg _
    have Hs:Hid (∀ n z,W1.heap.size<=((wr.drewN n).alloc (.cells #[.string (am z)] 9)).heap.size):=fun n z=>by rw[ZS];exact Nat.le_succ_of_le yg
    have m6:Hid (∀ n z,eD ((wr.drewN n).alloc (.cells #[.string (am z)] 9)) W1.heap.size (.slice an pre.length cn) pre):=fun n z=>(zH.out.kept (below_drewN (ZQ _ _) n)).kept (da _ _)
    by_cases pd:k<u.length
    ·have XV:(k:Int)<(u.length:Int):=by omega
     obtain⟨b2,off2,zI,aD,Ey⟩:=HO.out.sv.at1 (cJ pd);rw[ek]at Ey;have BR:=ae (YL.out u[k] (ZV pd));cases zI
     have kx:=(oJ.out.cell (p:=⟨b2,off2+k,none⟩) aD).trans Ey;have XW:=(oJ.out.cell (p:=⟨bl,offl+i,none⟩) fM).trans eO;have HSt:=ae (XU.out.step pd);have XX:=ae Ey;clear XU Ey;generalize u[k]=y at *
     have Bv:Hid (((am y).toList==(am x).toList)=decide (y=x)):=ae (by
      rw[bx,bx];by_cases e:y=x
      ·rw[e];simp
      ·rw[decide_eq_false e]
       exact Z1.2 (fun h=>e (by rw[← ff BR.out,← ff l8.out,h])))
     have EQ:Hid (Op.bytesLess (am x).toList (am y).toList=decide (x<y)):=ae (by
      rw[bx,bx];exact nc l8.out BR.out)
     cases d with
     | true =>
      have rG:=ae (HSt.out.1 rfl);by_cases xr:y=x
      ·have Ht:((am y).toList==(am x).toList)=true:=Bv.out.trans (decide_eq_true xr)
       clear xr;go_wp2_with fail;go_quiet (fail)
       go_wp2_with fail;go_quiet (fail)
       go_wp2_with (first | (at_builtin;refine bW rfl _ _ rfl W1.heap.size _ _ y pre rfl (m6.out _ y) rfl (aK _ _ _) ?c2 ?c3 ?_))
       case c2=>omega
       case c3=>first | omega | exact Hs.out _ _
       intro v7 w7 o7 b7;have iw:=ae o7;have ia:=ae ((eW.out _ y).trans b7);clear o7 b7;go_wp2_with fail;go_roundw
       case rel=>exact⟨k+1,_,true,by omega,by go_num,rfl,iw.out,rG.out,ia.out⟩
       case measure=>simp[intOf];omega
      ·have XY:((am y).toList==(am x).toList)=false:=Bv.out.trans (decide_eq_false xr)
       clear xr;go_wp2_with fail;go_quiet (fail)
       go_wp2_with fail;go_quiet (fail)
       go_wp2_with (first | (at_builtin;refine bW rfl _ _ rfl W1.heap.size _ _ y pre rfl (m6.out _ y) rfl (aK _ _ _) ?c2 ?c3 ?_))
       case c2=>omega
       case c3=>first | omega | exact Hs.out _ _
       intro v7 w7 o7 b7;have iw:=ae o7;have ia:=ae ((eW.out _ y).trans b7);clear o7 b7;go_wp2_with fail;go_roundw
       case rel=>exact⟨k+1,_,true,by omega,by go_num,rfl,iw.out,rG.out,ia.out⟩
       case measure=>simp[intOf];omega
     | false =>
      by_cases xr:y=x
      ·have rG:=ae (HSt.out.2.1 rfl xr)
       have Ht:((am y).toList==(am x).toList)=true:=Bv.out.trans (decide_eq_true xr);clear xr;go_wp2_with fail;go_quiet (fail)
       go_wp2_with fail;go_quiet (fail)
       go_wp2_with (first | (at_builtin;refine bW rfl _ _ rfl W1.heap.size _ _ y pre rfl (m6.out _ y) rfl (aK _ _ _) ?c2 ?c3 ?_))
       case c2=>omega
       case c3=>first | omega | exact Hs.out _ _
       intro v7 w7 o7 b7;have iw:=ae o7;have ia:=ae ((eW.out _ y).trans b7);clear o7 b7;go_wp2_with fail;go_roundw
       case rel=>exact⟨k+1,_,true,by omega,by go_num,rfl,iw.out,rG.out,ia.out⟩
       case measure=>simp[intOf];omega
      ·have XY:((am y).toList==(am x).toList)=false:=Bv.out.trans (decide_eq_false xr)
       have Hu:y≠x:=xr;clear xr;by_cases BK:x<y
       ·have XZ:Op.bytesLess (am x).toList (am y).toList=true:=EQ.out.trans (decide_eq_true BK)
        have rG:=ae (HSt.out.2.2.1 rfl BK);clear Hu BK;go_wp2_with fail;go_quiet (fail)
        go_wp2_with fail;go_quiet (fail)
        go_wp2_with (first | (at_builtin;refine bW rfl _ _ rfl W1.heap.size _ _ x pre rfl (m6.out _ x) rfl (aK _ _ _) ?c2 ?c3 ?_))
        case c2=>omega
        case c3=>first | omega | exact Hs.out _ _
        intro v6 w6 o6 b6;have mU:=ae o6;have i5:=ae ((eW.out _ x).trans b6);have hc6:=(i5.out.cell (p:=⟨b2,off2+k,none⟩) aD).trans XX.out;have Ew:=i5.out.size;have zM:=ae (o6.kept (da w6 (.cells #[.string (am y)] 9)));clear o6 b6;go_wp2_with (first | (at_builtin;refine bW rfl _ _ rfl W1.heap.size _ _ y (pre++[x]) rfl zM.out rfl (aK _ _ _) ?c2 ?c3 ?_))
        case c2=>simp;omega
        case c3=>first | omega | (rw[ZS];omega)
        intro v7 w7 o7 b7;have o7':eD w7 W1.heap.size v7 (pre++[x]++[y]):=by simpa using o7
        have iw:=ae o7';have ia:=ae ((i5.out.alloc Ew (.cells #[.string (am y)] 9)).trans b7);clear o7 o7' b7;go_wp2_with fail;go_roundw
        case rel=>exact⟨k+1,_,true,by omega,by go_num,rfl,iw.out,rG.out,ia.out⟩
        case measure=>simp[intOf];omega
       ·have XZ:Op.bytesLess (am x).toList (am y).toList=false:=EQ.out.trans (decide_eq_false BK)
        have rG:=ae (HSt.out.2.2.2 rfl Hu BK);clear Hu BK;go_wp2_with fail;go_quiet (fail)
        go_wp2_with fail;go_quiet (fail)
        go_wp2_with (first | (at_builtin;refine bW rfl _ _ rfl W1.heap.size _ _ y pre rfl (m6.out _ y) rfl (aK _ _ _) ?c2 ?c3 ?_))
        case c2=>omega
        case c3=>first | omega | exact Hs.out _ _
        intro v7 w7 o7 b7;have iw:=ae o7;have ia:=ae ((eW.out _ y).trans b7);clear o7 b7;go_wp2_with fail;go_roundw
        case rel=>exact⟨k+1,_,false,by omega,by go_num,rfl,iw.out,rG.out,ia.out⟩
        case measure=>simp[intOf];omega
    ·obtain rfl:k=u.length:=by omega
     have XV:¬ (u.length:Int)<(u.length:Int):=by omega
     have MX:=ae XU.out.last;cases d with
     | true =>
      have e:=MX.out.1 rfl;have X0:Hid (eD wr w.heap.size (.slice an pre.length cn) (tuq (l.take (i+1)))):=ae (by rw[HU.out,← e];exact aZ zH.out bO);clear e;go_wp2_with fail;go_roundw
      case rel=>exact⟨i+1,by omega,by go_num,X0.out,HB.out.trans (oJ.out.mono bO)⟩
      case measure=>simp[intOf];omega
     | false =>
      have HE:=ae (MX.out.2 rfl);have XW:=(oJ.out.cell (p:=⟨bl,offl+i,none⟩) fM).trans eO;have yi:=ae (zH.out.kept (da wr (.cells #[.string (am x)] 9)));have yj:=ae (oJ.out.alloc yg (.cells #[.string (am x)] 9));go_wp2_with (first | (at_builtin;refine bW rfl _ _ rfl W1.heap.size _ _ x pre rfl yi.out rfl (aK _ _ _) ?c2 ?c3 ?_))
      case c2=>omega
      case c3=>first | omega | (rw[ZS];omega)
      intro v7 w7 o7 b7;have iw:Hid (eD w7 w.heap.size v7 (tuq (l.take (i+1)))):=ae (by rw[HU.out,← HE.out];exact aZ o7 bO);have ia:=ae (HB.out.trans ((yj.out.trans b7).mono bO));clear o7 b7;go_wp2_with fail;go_roundw
      case rel=>exact⟨i+1,by omega,by go_num,iw.out,ia.out⟩
      case measure=>simp[intOf];omega
  ·obtain rfl:i=l.length:=by omega
   have mF:¬ (l.length:Int)<(l.length:Int):=by omega
   rw[ZY]at HO;go_wp2_with fail;go_ret
   exact⟨⟨_,rfl,HO.out⟩,HB.out⟩
def Ap(a b:Value):Prop:=∀ g,a.ownBlock=some g->b.ownBlock≠some g
theorem Ap.symm{a b:Value}(h:Ap a b):Ap b a:=fun g hg h2=>h g h2 hg
theorem Ap.of_types{w:World}{B B' e e' n n':Nat}{v v':Value}{xs xs':List Value}(h:w.ownsRow B e 1 v n xs)(h':w.ownsRow B' e' 1 v' n' xs')(fO:e≠e'):Ap v v':=by
 intro g hg hg';obtain⟨_,⟨rfl,_⟩ | ⟨k,cap,cur,rfl,_,h3,_⟩⟩:=h
 ·cases hg
 ·obtain⟨_,⟨rfl,_⟩ | ⟨k',cap',cur',rfl,_,h3',_⟩⟩:=h'
  ·cases hg'
  ·cases hg
   cases hg'
   rw[h3]at h3';cases h3'
   exact fO rfl
theorem dw{W w':World}{B e n:Nat}{v u:Value}{xs:List Value}(h:W.ownsRow B e 1 v n xs)(hg:W.grownBy w' u.ownBlock)(ha:Ap v u):w'.ownsRow B e 1 v n xs:=by
 refine h.kept hg ?_;cases hv:v.ownBlock with
 | none=>exact Or.inl rfl
 | some g=>exact Or.inr (fun e=>ha g hv e.symm)
theorem Ap.grow{a a' b:Value}{n:Nat}(h:Ap a b)(hn:a'.ownBlock=a.ownBlock∨a'.ownBlock=some n)(hb:∀ k,b.ownBlock=some k->k<n):Ap a' b:=by
 intro g hg gK;rcases hn with hn | hn
 ·exact h g (by rw[← hn];exact hg) gK
 ·have e:n=g:=Option.some.inj (hn.symm.trans hg)
  have:=hb g gK;omega
theorem l7{w:World}{ops:Array Oper}{rest:List Oper}{o:Oper}{a:Act}{Q:Exit->Act->World->Prop}(ee:o.guard=none)(s x:Operand)
  (ho:o.op=.call { callee:=.builtin .append,args:=#[s,x],argTypes:=#[143,143] })
  (base:Nat) (v:Value) (g:Nat) (z:Int) (l0:List Int) (hs:a.eval s=v) (az:br w base v l0) (hx:a.eval x=.slice (some ⟨g,0,none⟩) 1 1) (hc:w.cell? ⟨g,0,none⟩=some (.int .i64 z))
  (hbytes:l0.length<=100000) (aH:base<=w.heap.size)
  (h:∀ v' w',br w' base v' (l0++[z])->w.grownBy w' v.ownBlock->wpList Tryz.prog ops Q rest (a.put o.dst v') w') :
  wpList Tryz.prog ops Q (o::rest) a w:=by
 obtain⟨i0,hi,ce,hz1',bm⟩:=info_parts yY;unfold br at *
 refine wpList_append_own_at (w:=w) ee s x 143 ho base 2 i0 (.int .i64 0) 1 8 Tryz.underlying143 hi ce hz1' bm rfl (by decide) v l0.length (aJ l0) hs az ⟨g,0,none⟩ 1 1 [.int .i64 z] hx rfl ?_ (fun u hu=>by
  have:u=.int .i64 z:=by simpa using hu
  subst this;rfl) (by unfold maxLen;omega) (by omega) aH ?_
 ·intro j u hu
  rw[md];cases j with
  | zero =>
   simp only[List.getElem?_cons_zero,Option.some.injEq]at hu;rw[← hu];exact hc
  | succ j=>simp at hu
 ·intro v' w' o1 g1 _ _
  refine h v' w' ?_ g1;rw[qz,ZT];exact o1
theorem iZ{w:World}{ops:Array Oper}{rest:List Oper}{o:Oper}{a:Act}{Q:Exit->Act->World->Prop}(ee:o.guard=none)(s x:Operand)
  (ho:o.op=.call { callee:=.builtin .append,args:=#[s,x],argTypes:=#[142,142] })
  (base:Nat) (v:Value) (g:Nat) (z:Nat) (l0:List Nat) (hs:a.eval s=v) (az:dB w base v l0) (hx:a.eval x=.slice (some ⟨g,0,none⟩) 1 1) (hc:w.cell? ⟨g,0,none⟩=some (.int .u64 (z:Int)))
  (hbytes:l0.length<=100000) (aH:base<=w.heap.size)
  (h:∀ v' w',dB w' base v' (l0++[z])->w.grownBy w' v.ownBlock->(v'.ownBlock=v.ownBlock∨v'.ownBlock=some w.heap.size)->wpList Tryz.prog ops Q rest (a.put o.dst v') w') :
  wpList Tryz.prog ops Q (o::rest) a w:=by
 obtain⟨i0,hi,ce,hz1',bm⟩:=info_parts pt;unfold dB at *
 refine wpList_append_own_at (w:=w) ee s x 142 ho base 92 i0 (.int .u64 0) 1 8 Tryz.underlying142 hi ce hz1' bm rfl (by decide) v l0.length (aE .u64 l0) hs az ⟨g,0,none⟩ 1 1 [.int .u64 (z:Int)] hx rfl ?_ (fun u hu=>by
  have:u=.int .u64 (z:Int):=by simpa using hu
  subst this;rfl) (by unfold maxLen;omega) (by omega) aH ?_
 ·intro j u hu
  rw[md];cases j with
  | zero =>
   simp only[List.getElem?_cons_zero,Option.some.injEq]at hu;rw[← hu];exact hc
  | succ j=>simp at hu
 ·intro v' w' o1 g1 _ g2
  refine h v' w' ?_ g1 g2;rw[bZ,ZT];exact o1
theorem rt{w:World}{ops:Array Oper}{rest:List Oper}{o:Oper}{a:Act}{Q:Exit->Act->World->Prop}(ee:o.guard=none)(s x:Operand)
  (ho:o.op=.call { callee:=.builtin .append,args:=#[s,x],argTypes:=#[144,144] })
  (base:Nat) (v:Value) (g:Nat) (z:List Nat) (l0:List (List Nat)) (hs:a.eval s=v) (az:eD w base v l0) (hx:a.eval x=.slice (some ⟨g,0,none⟩) 1 1) (hc:w.cell? ⟨g,0,none⟩=some (txt z))
  (hbytes:l0.length<=100000) (aH:base<=w.heap.size)
  (h:∀ v' w',eD w' base v' (l0++[z])->w.grownBy w' v.ownBlock->wpList Tryz.prog ops Q rest (a.put o.dst v') w') :
  wpList Tryz.prog ops Q (o::rest) a w:=by
 obtain⟨i0,hi,ce,hz1',bm⟩:=info_parts Vv;unfold eD at *
 refine wpList_append_own_at (w:=w) ee s x 144 ho base 9 i0 (.string ⟨#[]⟩) 1 16 Tryz.underlying144 hi ce hz1' bm rfl (by decide) v l0.length (cy l0) hs az ⟨g,0,none⟩ 1 1 [txt z] hx rfl ?_ (fun u hu=>by
  have:u=txt z:=by simpa using hu
  subst this;rfl) (by unfold maxLen;omega) (by omega) aH ?_
 ·intro j u hu
  rw[md];cases j with
  | zero =>
   simp only[List.getElem?_cons_zero,Option.some.injEq]at hu;rw[← hu];exact hc
  | succ j=>simp at hu
 ·intro v' w' o1 g1 _ _
  refine h v' w' ?_ g1;rw[oY,ZT];exact o1
theorem sQ{w:World}{ops:Array Oper}{rest:List Oper}{o:Oper}{a:Act}{Q:Exit->Act->World->Prop}(ee:o.guard=none)(s x:Operand)
  (ho:o.op=.call { callee:=.builtin .append,args:=#[s,x],argTypes:=#[30,9] })
  (base:Nat) (v:Value) (l0 z:List Nat) (hs:a.eval s=v) (az:aC w base v l0) (hx:a.eval x=.string (am z)) (hz:Bs z)
  (hbytes:l0.length+z.length<=140737488355328) (aH:base<=w.heap.size)
  (h:∀ v' w',aC w' base v' (l0++z)->w.grownBy w' v.ownBlock->wpList Tryz.prog ops Q rest (a.put o.dst v') w') :
  wpList Tryz.prog ops Q (o::rest) a w:=by
 obtain⟨i0,hi,ce,hz1',bm⟩:=info_parts jf;unfold aC at *;refine wpList_append_own_string (w:=w) ee s x 30 9 ho base 5 i0 Tryz.underlying30 Tryz.underlying9 hi ce hz1' bm v l0.length (aE .u8 l0) hs az (am z) hx (by rw[bi];unfold maxLen;omega) (by rw[bi];exact hbytes) aH ?_;intro v' w' o1 g1 _;refine h v' w' ?_ g1;rw[bi]at o1
 have e:strCells (am z)=aE .u8 z:=by
  unfold strCells am aE;simp only[jao];apply jaI
  intro y hy;have:=hz y hy;simp[jaA this]
 rw[e]at o1;rw[bZ,ZT];exact o1
theorem sR{w:World}{v:Value}{l:List Nat}(hs:Sv w v (aE .u64 l))(h2:∀ x∈l,x<18446744073709551616):Calls Tryz.prog 87 #[v] w (du w (be l 1)):=by
 have HB:=ae (mr hs.sx h2 1);clear hs h2;generalize be l 1=bs at *;generalize can l 1=bb at *;go_enter Tryz.func87,Tryz.ntmps87
 go_wp2_with fail;refine HB.out.mono ?_;rintro e w1 ⟨v1,rfl,eG,aG⟩;have fA:=ae eG;have aQ:=ae aG;clear eG aG;go_wp2_with fail;go_ret
 exact⟨⟨_,rfl,fA.out⟩,aQ.out⟩
theorem xe{w:World}{v:Value}{l:List Int}(hs:Sv w v (aJ l))(hl:l.length<=256)(hi:Is l):Calls Tryz.prog 136 #[v] w (du w (cnt l)):=by
 have HB:=ae (jp hs hi);rw[jT hl]at HB;have bQ:=gx hi hl;have mP:Hid (cnt l=uv (cN l).length++cN l):=rfl;clear hs hi;generalize cnt l=cn at *;generalize cN l=bs at *;have mY:=bI (n:=bs.length) (by omega);have HP:=ae (bC bs.length (by omega));go_enter Tryz.func136,Tryz.ntmps136
 go_wp2_with fail;refine HB.out.mono ?_;rintro e w1 ⟨⟨v1,rfl,eG⟩,aG⟩;have fA:=ae eG;have aQ:=ae aG;have cW:=aG.size;obtain⟨a1,c1,rfl⟩:=eG.len;clear eG aG;go_wp2_with fail;refine(HP.out _).mono ?_;rintro e w2 ⟨⟨v2,rfl,fq⟩,aD⟩;have dr:=ae (fq.low cW);have aN:=ae aD;have bm:=aD.size;clear fq aD;go_wp2_with (first | (at_builtin;refine ar rfl _ _ rfl w.heap.size _ _ (uv bs.length) bs rfl dr.out rfl (fA.out.kept aN.out).sv ?c1 ?c2 ?_))
 case c1=>omega
 case c2=>omega
 intro v4 w4 o4 b4;have eP:=ae o4;have b9:=ae ((aQ.out.trans (aN.out.mono cW)).trans b4);clear o4 b4;go_wp2_with fail;go_ret
 rw[mP.out];exact⟨⟨_,rfl,eP.out⟩,b9.out⟩
theorem uh{l:List (List Nat)}{k:Nat}(h:k<l.length):dY (l.take (k+1))=dY (l.take k)++[((am l[k]).size:Int)]:=by
 unfold dY;rw[Z5 h,Z8,bi];rfl
theorem jK{w:World}{v:Value}{l:List (List Nat)}(hs:Sv w v (cy l))(hl:l.length<=256)(ht:Ts l):Calls Tryz.prog 90 #[v] w (du w (fx l)):=by
 have HS:=ae hs;have HT:=ae ht;obtain⟨a,cap,rfl,aX,bw⟩:=hs.form1;rw[dE]at *;have hcm':cap<=9223372036854775807:=by unfold maxLen at bw;omega
 have VX:Hid (fx l=cnt (dY l)++l.flatten):=rfl;have J2:=ae (fun k=>iV ht hl k);have HSI:=ae (gQ ht)
 have eO:(cnt (dY l)).length<=5141:=by
  have h1:=gx (gQ ht) (by rw[bG];exact hl);have h2:=bI (n:=(cN (dY l)).length) (by omega);unfold cnt;rw[ZT];omega
 have jM:=iV ht hl l.length;rw[ZY]at jM;clear hs bw ht;generalize fx l=TX at *;go_enter Tryz.func90,Tryz.ntmps90
 go_wp2_with fail;go_loopw [3,4,5] (fun o q i wr=>∃ j:Nat,j<=l.length/\i=.int .i64 (j:Int)/\br wr w.heap.size o (dY (l.take j))/\aC wr w.heap.size q (l.take j).flatten/\Below w.heap.size w wr) (fun _ _ i _=>l.length-(intOf i).toNat)
 case atStart=>exact⟨0,by omega,rfl,br.nil _ _,aC.nil _ _,ZQ _ _⟩
 case round =>
  obtain⟨j,hj,rfl,az,Wo,ay⟩:=hrel;have HO:=ae az;have zM:=ae Wo;have HB:=ae ay;have bO:=ay.size;clear az Wo ay;by_cases aB:j<l.length
  ·obtain⟨g,off,rfl,hg,bo⟩:=HS.out.at1 (cJ aB)
   rw[ek]at bo;have HCE:=ae bo;have YM:=(HB.out.cell (p:=⟨g,off+j,none⟩) hg).trans bo;have hlt':(j:Int)<(l.length:Int):=by omega
   have HZS:=ae (uh aB);have sV:=ae (kS aB);have hlen':(dY (l.take j)).length<=100000:=by rw[bG,ZX];omega
   have rC:=J2.out j;obtain⟨Hc,UB⟩:=HT.out _ (ZV aB);have Bz:=ae UB;clear bo UB;generalize l[j]=x at *;generalize hfj:(l.take j).flatten=FJ at *;generalize dY (l.take j)=SJ at *;clear hfj;go_wp2_with (first | (at_builtin;refine l7 rfl _ _ rfl w.heap.size _ _ ((am x).size:Int) SJ rfl (HO.out.kept (ak _ _)) rfl (aK _ _ _) hlen' ?c2 ?_))
   case c2=>first | omega | (rw[ZS];omega)
   intro v5 w5 o5 g5;have hob:aC wr w.heap.size _ FJ:=zM.out;have JZ:=Ap.of_types hob HO.out (by decide);have Sj:=ae (show aC w5 w.heap.size _ FJ from dw (bH hob (ak wr (.cells #[.int .i64 ((am x).size:Int)] 2))) g5 JZ);have dH:=ae o5;have bq:Below w.heap.size w w5:=(HB.out.alloc bO (.cells #[.int .i64 ((am x).size:Int)] 2)).grown g5 (by rw[ZS];omega) (fun k hk=>(HO.out.lt k hk).1);have aR:=ae bq;have uG:=bq.size;have hcell5:=(bq.cell (p:=⟨g,off+j,none⟩) hg).trans HCE.out;clear o5 g5 hob JZ bq YM;go_wp2_with (first | (at_builtin;refine sQ rfl _ _ rfl w.heap.size _ FJ x rfl Sj.out rfl Bz.out ?d1 ?d2 ?_))
   case d1=>omega
   case d2=>omega
   intro v6 w6 o6 g6;have JZ:=Ap.of_types dH.out Sj.out (by decide);have mU:=ae (show br w6 w.heap.size v5 (SJ++[((am x).size:Int)]) from dw dH.out g6 JZ);have HOB6:=ae o6;have i5:=ae (aR.out.grown g6 uG (fun k hk=>(Sj.out.lt k hk).1));clear o6 g6 JZ;go_wp2_with fail;go_roundw
   case rel=>exact⟨j+1,by omega,by go_num,by rw[HZS.out];exact mU.out,by rw[sV.out];exact HOB6.out,i5.out⟩
   case measure=>simp[intOf];omega
  ·obtain rfl:j=l.length:=by omega
   rw[ZY]at HO zM;have gJ:¬ ((l.length:Nat):Int)<(l.length:Int):=by omega
   have HCT:=ae (xe HO.out.sv (by rw[bG];exact hl) HSI.out);generalize cnt (dY l)=CN at *;generalize l.flatten=FL at *;go_wp2_with fail;refine HCT.out.mono ?_;rintro e w5 ⟨⟨v5,rfl,o5⟩,bq⟩;have dH:=ae (o5.low bO);have Sj:=ae (zM.out.kept bq);have aR:=ae (HB.out.trans (bq.mono bO));have uG:=bq.size;clear o5 bq;go_wp2_with (first | (at_builtin;refine ar rfl _ _ rfl w.heap.size _ _ CN FL rfl dH.out rfl Sj.out.sv ?e1 ?e2 ?_))
   case e1=>omega
   case e2=>omega
   intro v6 w6 o6 b6;have mU:=ae o6;have i5:=ae (aR.out.trans b6);clear o6 b6;go_wp2_with fail;go_ret
   rw[VX.out];exact⟨⟨_,rfl,mU.out⟩,i5.out⟩
def zC(c:Nat×Int×List Nat):Prop :=
 c=nul∨(∃ n,c=(1,n,[])/\I64 n)∨(∃ n:Nat,c=(2,(n:Int),[])/\n<2)∨(∃ s,c=(3,0,s)/\Bs s)
theorem aU.wide{c:Nat×Int×List Nat}(h:aU c):zC c:=by
 rcases h with h | h | h | ⟨s,h,_,h2⟩
 ·exact Or.inl h
 ·exact Or.inr (Or.inl h)
 ·exact Or.inr (Or.inr (Or.inl h))
 ·exact Or.inr (Or.inr (Or.inr ⟨s,h,h2⟩))
theorem zC.fine{c:Nat×Int×List Nat}(h:zC c)(hs:c.2.2.length<=64):aU c:=by
 rcases h with h | h | h | ⟨s,rfl,h2⟩
 ·exact Or.inl h
 ·exact Or.inr (Or.inl h)
 ·exact Or.inr (Or.inr (Or.inl h))
 ·exact Or.inr (Or.inr (Or.inr ⟨s,rfl,hs,h2⟩))
theorem zC.parts{c:Nat×Int×List Nat}(h:zC c):c.1<=3/\I64 c.2.1/\Bs c.2.2:=by
 rcases h with rfl | ⟨n,rfl,h⟩ | ⟨n,rfl,h⟩ | ⟨s,rfl,h⟩
 ·exact⟨by simp[nul],by simp[nul,I64],fun x hx=>by simp[nul]at hx⟩
 ·exact⟨by simp,h,fun x hx=>by simp at hx⟩
 ·exact⟨by simp,by simp only[I64];omega,fun x hx=>by simp at hx⟩
 ·exact⟨by simp,by simp[I64],h⟩
def xf(z:Int):Nat:=(z % 18446744073709551616).toNat
theorem G5(z:Int):IntKind.u64.wrap z=(xf z:Int):=by rw[jag];unfold xf;omega
def tr4(l:List (Nat×Int×List Nat)):List Nat:=(bS l).map fun c=>xf c.2.1
def wh4(l:List (Nat×Int×List Nat)):List Int:=(bS l).map fun c=>c.2.1
def wd4(l:List (Nat×Int×List Nat)):List (List Nat):=(bS l).map fun c=>c.2.2
theorem L8{l:List (Nat×Int×List Nat)}{j:Nat}(h:j<l.length)(h0:l[j].1=0):bJ (l.take (j+1))=bJ (l.take j)++[0]/\tr4 (l.take (j+1))=tr4 (l.take j)/\wh4 (l.take (j+1))=wh4 (l.take j)/\wd4 (l.take (j+1))=wd4 (l.take j):=by
 have h1:=jz h;have h2:=fH h;rw[if_pos h0]at h1 h2;rw[Z7]at h2;unfold tr4 wh4 wd4;rw[h2];exact⟨h1,rfl,rfl,rfl⟩
theorem L9{l:List (Nat×Int×List Nat)}{j:Nat}(h:j<l.length)(h0:l[j].1≠0):bJ (l.take (j+1))=bJ (l.take j)++[1]/\tr4 (l.take (j+1))=tr4 (l.take j)++[xf l[j].2.1]/\wh4 (l.take (j+1))=wh4 (l.take j)++[l[j].2.1]/\wd4 (l.take (j+1))=wd4 (l.take j)++[l[j].2.2]:=by
 have h1:=jz h;have h2:=fH h;rw[if_neg h0]at h1 h2;unfold tr4 wh4 wd4;rw[h2,Z8,Z8,Z8];exact⟨h1,rfl,rfl,rfl⟩
theorem Q3(l:List (Nat×Int×List Nat))(j:Nat):(bJ (l.take j)).length<=l.length/\(tr4 (l.take j)).length<=l.length/\(wh4 (l.take j)).length<=l.length/\(wd4 (l.take j)).length<=l.length:=by
 have h:=jc l j;refine⟨by rw[bg,ZX];omega,?_,?_,?_⟩
 ·unfold tr4;rw[ZU];exact h
 ·unfold wh4;rw[ZU];exact h
 ·unfold wd4;rw[ZU];exact h
def jL(W:World)(B:Nat)(a b c d:Value)(L1 L2:List Nat)(L3:List Int)(L4:List (List Nat)):Prop:=dB W B a L1/\dB W B b L2/\br W B c L3/\eD W B d L4/\Ap a b
theorem jL.nil(W:World)(B:Nat):jL W B (.slice none 0 0) (.slice none 0 0) (.slice none 0 0) (.slice none 0 0) [] [] [] []:=⟨dB.nil _ _,dB.nil _ _,br.nil _ _,eD.nil _ _,fun g hg=>by cases hg⟩
theorem jL.kept{W W':World}{B:Nat}{a b c d:Value}{L1 L2:List Nat}{L3:List Int}{L4:List (List Nat)}(h:jL W B a b c d L1 L2 L3 L4)(hb:Below W.heap.size W W'):jL W' B a b c d L1 L2 L3 L4:=⟨h.1.kept hb,h.2.1.kept hb,h.2.2.1.kept hb,h.2.2.2.1.kept hb,h.2.2.2.2⟩
theorem jL.g1{W W':World}{B:Nat}{a a' b c d:Value}{L1 L1' L2:List Nat}{L3:List Int}{L4:List (List Nat)}(h:jL W B a b c d L1 L2 L3 L4)(ho:dB W' B a' L1')(hg:W.grownBy W' a.ownBlock)(hn:a'.ownBlock=a.ownBlock∨a'.ownBlock=some W.heap.size):jL W' B a' b c d L1' L2 L3 L4:=by
 obtain⟨h1,h2,h3,h4,h5⟩:=h;exact⟨ho,dw h2 hg h5.symm,dw h3 hg (Ap.of_types h3 h1 (by decide)),dw h4 hg (Ap.of_types h4 h1 (by decide)),h5.grow hn (fun k hk=>(h2.lt k hk).2)⟩
theorem jL.g2{W W':World}{B:Nat}{a b b' c d:Value}{L1 L2 L2':List Nat}{L3:List Int}{L4:List (List Nat)}(h:jL W B a b c d L1 L2 L3 L4)(ho:dB W' B b' L2')(hg:W.grownBy W' b.ownBlock)(hn:b'.ownBlock=b.ownBlock∨b'.ownBlock=some W.heap.size):jL W' B a b' c d L1 L2' L3 L4:=by
 obtain⟨h1,h2,h3,h4,h5⟩:=h;exact⟨dw h1 hg h5,ho,dw h3 hg (Ap.of_types h3 h2 (by decide)),dw h4 hg (Ap.of_types h4 h2 (by decide)),(h5.symm.grow hn (fun k hk=>(h1.lt k hk).2)).symm⟩
theorem jL.g3{W W':World}{B:Nat}{a b c c' d:Value}{L1 L2:List Nat}{L3 L3':List Int}{L4:List (List Nat)}(h:jL W B a b c d L1 L2 L3 L4)(ho:br W' B c' L3')(hg:W.grownBy W' c.ownBlock):jL W' B a b c' d L1 L2 L3' L4:=by
 obtain⟨h1,h2,h3,h4,h5⟩:=h;exact⟨dw h1 hg (Ap.of_types h1 h3 (by decide)),dw h2 hg (Ap.of_types h2 h3 (by decide)),ho,dw h4 hg (Ap.of_types h4 h3 (by decide)),h5⟩
theorem jL.g4{W W':World}{B:Nat}{a b c d d':Value}{L1 L2:List Nat}{L3:List Int}{L4 L4':List (List Nat)}(h:jL W B a b c d L1 L2 L3 L4)(ho:eD W' B d' L4')(hg:W.grownBy W' d.ownBlock):jL W' B a b c d' L1 L2 L3 L4':=by
 obtain⟨h1,h2,h3,h4,h5⟩:=h;exact⟨dw h1 hg (Ap.of_types h1 h4 (by decide)),dw h2 hg (Ap.of_types h2 h4 (by decide)),dw h3 hg (Ap.of_types h3 h4 (by decide)),ho,h5⟩
theorem G6{x:List Nat}:∀{u:List (List Nat)} {q:Nat} (h:q<u.length),q<plT u x->u[q]≠x
 | y::t,0,h,hq=>by
  intro e;unfold plT at hq;rw[if_pos (by simpa using e)]at hq;omega
 | y::t,q+1,h,hq=>by
  unfold plT at hq;split at hq
  ·omega
  ·have:=G6 (x:=x) (u:=t) (q:=q) (by simpa using h) (by omega)
   simpa using this
theorem JU{l:List (Nat×Int×List Nat)}(h:∀ c∈l,gh 2 c):tr4 l=(bS l).map fun c=>c.2.1.toNat:=by
 unfold tr4;apply jaI
 intro c hc;obtain⟨h1,h2⟩:=ji hc;rcases h c h1 with rfl | ⟨e,_⟩ | ⟨_,n,rfl,hn⟩ | ⟨e,_⟩
 ·exact absurd rfl h2
 ·omega
 ·simp only[xf];omega
 ·omega
theorem tL{k:Nat}{l:List (Nat×Int×List Nat)}(h:¬ (1<=k/\k<=3/\∀ c∈l,c.1=0∨c.1=k)):dQ k l=([],10):=if_neg h
theorem Ej{k:Nat}{l:List (Nat×Int×List Nat)}(h:1<=k/\k<=3/\∀ c∈l,c.1=0∨c.1=k)(h2:¬ (l.length<=256/\∀ c∈l,c.2.2.length<=64)):dQ k l=([],5):=by
 unfold dQ;rw[if_pos h,if_neg h2]
end Go.Proofs.YtpljdjmpamjkhaaGreatDoor
