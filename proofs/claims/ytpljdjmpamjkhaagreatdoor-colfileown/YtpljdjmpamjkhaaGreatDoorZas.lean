/- What a predicate answers of a row: Eval. Flags of three answers: only, contraries. What statistics leave of a node: withSome. IndexFunc, by two functions. Clone, and DeleteFunc of the nulls. ContainsFunc, MinFunc, MaxFunc. -/
import Derived.Test.YtpljdjmpamjkhaaGreatDoorZar
import Derived.Lib.SliceRun
import Derived.Lib.EndianMore
set_option linter.unusedVariables false
set_option linter.unusedSimpArgs false
namespace Go.Proofs.YtpljdjmpamjkhaaGreatDoor
open Go.RowKit Go.Lib
def RowOf (W:World) (q si:Nat) (fv rv:Value) (l:List Fd) (r:List Cl):Prop :=
 q<W.heap.size/\W.cell? ⟨q,0,none⟩=some (.int .u32 (si:Int))/\W.cell? ⟨q,1,none⟩=some fv/\W.cell? ⟨q,2,none⟩=some rv/\Sf W fv l/\Sv W rv (vvals r)
theorem RowOf.kept {W W':World} {q si:Nat} {fv rv:Value} {l:List Fd} {r:List Cl} (h:RowOf W q si fv rv l r) (hb:Below W.heap.size W W'):RowOf W' q si fv rv l r:=by
 obtain ⟨h0,h1,h2,h3,h4,h5⟩:=h
 have e:∀ o,W'.cell? ⟨q,o,none⟩=W.cell? ⟨q,o,none⟩:=fun o=>(bcell hb).1 q o h0
 exact ⟨Nat.lt_of_lt_of_le h0 hb.size,by rw [e];exact h1,by rw [e];exact h2,by rw [e];exact h3,h4.kept hb,h5.kept hb⟩
theorem leafM_none {l:List Fd} {r:List Cl} {op f:Nat} {c:Cl} (h:place l f=none):leafM l r op f c=1:=by unfold leafM;rw [h]
theorem leafM_past {l:List Fd} {r:List Cl} {op f j:Nat} {c:Cl} (h:place l f=some j) (hj:¬ j<r.length):leafM l r op f c=1:=by
 unfold leafM;rw [h];simp only;rw [List.getElem?_eq_none (by omega)]
theorem leafM_at {l:List Fd} {r:List Cl} {op f j:Nat} {c:Cl} (h:place l f=some j) (hj:j<r.length):leafM l r op f c=leafX op c r[j]:=by
 unfold leafM;rw [h];simp only;rw [List.getElem?_eq_getElem hj]
theorem cell_new6 (w:World) (x0 x1 x2 x3 x4 x5:Value) (t:Nat):(w.alloc (.cells #[x0,x1,x2,x3,x4,x5] t)).cell? ⟨w.heap.size,0,none⟩=some x0/\(w.alloc (.cells #[x0,x1,x2,x3,x4,x5] t)).cell? ⟨w.heap.size,1,none⟩=some x1/\(w.alloc (.cells #[x0,x1,x2,x3,x4,x5] t)).cell? ⟨w.heap.size,2,none⟩=some x2/\(w.alloc (.cells #[x0,x1,x2,x3,x4,x5] t)).cell? ⟨w.heap.size,3,none⟩=some x3/\(w.alloc (.cells #[x0,x1,x2,x3,x4,x5] t)).cell? ⟨w.heap.size,4,none⟩=some x4/\(w.alloc (.cells #[x0,x1,x2,x3,x4,x5] t)).cell? ⟨w.heap.size,5,none⟩=some x5:=by
 refine ⟨?_,?_,?_,?_,?_,?_⟩<;>simp [go_sem]
theorem node_new (w:World) (op f:Nat) (c:Cl) (kv:Value):NodeAt (w.alloc (.cells #[.int .u8 (op:Int),.int .u32 (f:Int),.int .u8 (c.1:Int),.int .i64 c.2.1,.string (bytesT c.2.2),kv] 63)) w.heap.size 0 op f c kv:=by
 obtain ⟨h0,h1,h2,h3,h4,h5⟩:=cell_new6 w (.int .u8 (op:Int)) (.int .u32 (f:Int)) (.int .u8 (c.1:Int)) (.int .i64 c.2.1) (.string (bytesT c.2.2)) kv 63
 exact ⟨by rw [World.size_alloc];omega,h0,h1,h2,h3,h4,h5⟩
end Go.Proofs.YtpljdjmpamjkhaaGreatDoor
set_option linter.unusedVariables false
set_option linter.unusedSimpArgs false
namespace Go.Proofs.YtpljdjmpamjkhaaGreatDoor
open Go.RowKit Go.Lib
def b3V (b:B3):Value:=.agg #[.bool b.1,.bool b.2.1,.bool b.2.2]
def getB (a:B3) (x:Nat):Bool:=if x=0 then a.1 else if x=1 then a.2.1 else a.2.2
def setB (x:Nat) (a:B3):B3:=if x=0 then (true,a.2.1,a.2.2) else if x=1 then (a.1,true,a.2.2) else (a.1,a.2.1,true)
def Flg (W:World) (p:Nat) (o:B3):Prop:=W.heap[p]?=some (.cells #[.bool o.1,.bool o.2.1,.bool o.2.2] 123 (0,0))
theorem Flg.facts {W:World} {p:Nat} {o:B3} (h:Flg W p o):(W.cell? ⟨p,0,none⟩=some (.bool o.1)/\W.cell? ⟨p,1,none⟩=some (.bool o.2.1)/\W.cell? ⟨p,2,none⟩=some (.bool o.2.2))/\(W.frozen? ⟨p,0,none⟩=false/\W.frozen? ⟨p,1,none⟩=false/\W.frozen? ⟨p,2,none⟩=false)/\p<W.heap.size:=by
 unfold Flg at h
 refine ⟨⟨by rw [cell_block h];rfl,by rw [cell_block h];rfl,by rw [cell_block h];rfl⟩,⟨by simp [World.frozen?,h],by simp [World.frozen?,h],by simp [World.frozen?,h]⟩,(Array.getElem?_eq_some_iff.1 h).1⟩
theorem Flg.set {W:World} {p:Nat} {o:B3} (h:Flg W p o) (x:Nat) (hx:x<=2):Flg (W.setCell ⟨p,x,none⟩ (.bool true)) p (setB x o):=by
 unfold Flg at *
 rw [heap_set h]
 obtain rfl | rfl | rfl:x=0∨x=1∨x=2:=by omega
 all_goals rfl
theorem Flg.new (w:World) (o:B3):Flg (w.alloc (.cells #[.bool o.1,.bool o.2.1,.bool o.2.2] 123)) w.heap.size o:=by
 exact heap_alloc_new w _
theorem Flg.kept {W W':World} {p:Nat} {o:B3} (h:Flg W p o) (hb:Below W.heap.size W W'):Flg W' p o:=by
 have hp:=h.facts.2.2
 unfold Flg at *
 rw [hb.block p hp]
 exact h
end Go.Proofs.YtpljdjmpamjkhaaGreatDoor
set_option linter.unusedVariables false
set_option linter.unusedSimpArgs false
namespace Go.Proofs.YtpljdjmpamjkhaaGreatDoor
open Go.RowKit Go.Lib
def celS (st:Stt):List Value:=[.int .i64 st.rows,.int .i64 st.nulls,.bool st.some,.bool st.high,.int .u8 (st.lo.1:Int),.int .i64 st.lo.2.1,.string (bytesT st.lo.2.2),.int .u8 (st.hi.1:Int),.int .i64 st.hi.2.1,.string (bytesT st.hi.2.2)]
def aggS (st:Stt):Value:=.agg #[.int .i64 st.rows,.int .i64 st.nulls,.bool st.some,.bool st.high,.int .u8 (st.lo.1:Int),.int .i64 st.lo.2.1,.string (bytesT st.lo.2.2),.int .u8 (st.hi.1:Int),.int .i64 st.hi.2.1,.string (bytesT st.hi.2.2)]
def Stb (W:World) (q:Nat) (st:Stt):Prop:=W.heap[q]?=some (.cells #[.int .i64 st.rows,.int .i64 st.nulls,.bool st.some,.bool st.high,.int .u8 (st.lo.1:Int),.int .i64 st.lo.2.1,.string (bytesT st.lo.2.2),.int .u8 (st.hi.1:Int),.int .i64 st.hi.2.1,.string (bytesT st.hi.2.2)] 54 (0,0))
def StAt (W:World) (b off:Nat) (st:Stt):Prop:=b<W.heap.size/\(W.cell? ⟨b,off,none⟩=some (.int .i64 st.rows)/\W.cell? ⟨b,off+1,none⟩=some (.int .i64 st.nulls)/\W.cell? ⟨b,off+2,none⟩=some (.bool st.some)/\W.cell? ⟨b,off+3,none⟩=some (.bool st.high))/\(W.cell? ⟨b,off+4,none⟩=some (.int .u8 (st.lo.1:Int))/\W.cell? ⟨b,off+5,none⟩=some (.int .i64 st.lo.2.1)/\W.cell? ⟨b,off+6,none⟩=some (.string (bytesT st.lo.2.2)))/\(W.cell? ⟨b,off+7,none⟩=some (.int .u8 (st.hi.1:Int))/\W.cell? ⟨b,off+8,none⟩=some (.int .i64 st.hi.2.1)/\W.cell? ⟨b,off+9,none⟩=some (.string (bytesT st.hi.2.2)))
theorem StAt.kept {W W':World} {b off:Nat} {st:Stt} (h:StAt W b off st) (hb:Below W.heap.size W W'):StAt W' b off st:=by
 obtain ⟨h0,⟨a1,a2,a3,a4⟩,⟨a5,a6,a7⟩,a8,a9,a10⟩:=h
 have e:∀ o,W'.cell? ⟨b,o,none⟩=W.cell? ⟨b,o,none⟩:=fun o=>(bcell hb).1 b o h0
 exact ⟨Nat.lt_of_lt_of_le h0 hb.size,⟨by rw [e];exact a1,by rw [e];exact a2,by rw [e];exact a3,by rw [e];exact a4⟩,⟨by rw [e];exact a5,by rw [e];exact a6,by rw [e];exact a7⟩,by rw [e];exact a8,by rw [e];exact a9,by rw [e];exact a10⟩
theorem Stb.at {W:World} {q:Nat} {st:Stt} (h:Stb W q st):StAt W q 0 st:=by
 unfold Stb at h
 exact ⟨(Array.getElem?_eq_some_iff.1 h).1,⟨by rw [cell_block h];rfl,by rw [cell_block h];rfl,by rw [cell_block h];rfl,by rw [cell_block h];rfl⟩,⟨by rw [cell_block h];rfl,by rw [cell_block h];rfl,by rw [cell_block h];rfl⟩,by rw [cell_block h];rfl,by rw [cell_block h];rfl,by rw [cell_block h];rfl⟩
theorem Stb.new (w:World) (st:Stt):Stb (w.alloc (.cells #[.int .i64 st.rows,.int .i64 st.nulls,.bool st.some,.bool st.high,.int .u8 (st.lo.1:Int),.int .i64 st.lo.2.1,.string (bytesT st.lo.2.2),.int .u8 (st.hi.1:Int),.int .i64 st.hi.2.1,.string (bytesT st.hi.2.2)] 54)) w.heap.size st:=heap_alloc_new w _
def Oks (st:Stt):Prop:=Okc st.lo/\Okc st.hi
theorem set3 {B:Nat} {w W:World} (h:Below B w W) {p:Nat} (hp:B<=p) (x y z:Value):Below B w (((W.setCell ⟨p,0,none⟩ x).setCell ⟨p,1,none⟩ y).setCell ⟨p,2,none⟩ z) :=
 ((h.setCell (p:=⟨p,0,none⟩) hp _).setCell (p:=⟨p,1,none⟩) hp _).setCell (p:=⟨p,2,none⟩) hp _
theorem withM1 (u:Bool) (c:Cl) (st:Stt):withM u 1 c st=(!(st.high && decide (cmpC (fixC c) (fixC st.lo)=0) && decide (cmpC (fixC c) (fixC st.hi)=0) && uncutM (fixC c)),u,decide (0<=cmpC (fixC c) (fixC st.lo)) && !(st.high && decide (0<cmpC (fixC c) (fixC st.hi)))):=rfl
theorem withM2 (u:Bool) (c:Cl) (st:Stt):withM u 2 c st=(!(st.high && decide (0<cmpC (fixC c) (fixC st.hi))),u,decide (0<cmpC (fixC c) (fixC st.lo))):=rfl
theorem withM3 (u:Bool) (c:Cl) (st:Stt):withM u 3 c st=(!(st.high && decide (0<=cmpC (fixC c) (fixC st.hi))),u,decide (0<=cmpC (fixC c) (fixC st.lo))):=rfl
theorem withM4 (u:Bool) (c:Cl) (st:Stt):withM u 4 c st=(true,u,true):=rfl
theorem withM5 (u:Bool) (op:Nat) (c:Cl) (st:Stt) (h:¬ (1<=op/\op<=4)):withM u op c st=(true,true,true):=by
 unfold withM
 rw [if_neg (by omega),if_neg (by omega),if_neg (by omega),if_neg (by omega)]
def WsIn (w X:World) (b off op f:Nat) (c:Cl) (kv:Value) (u:Bool) (st:Stt):Prop:=Below w.heap.size w X/\Flg X w.heap.size (false,u,false)/\Stb X (w.heap.size+1) st/\Flg X (w.heap.size+1+1) (false,false,false)/\NodeAt X b off op f c kv
theorem WsIn.kept {w X Y:World} {b off op f:Nat} {c:Cl} {kv:Value} {u:Bool} {st:Stt} (h:WsIn w X b off op f c kv u st) (hb:Below X.heap.size X Y):WsIn w Y b off op f c kv u st:=by
 obtain ⟨h1,h2,h3,h4,h5⟩:=h
 refine ⟨below_then h1 hb,h2.kept hb,?_,h4.kept hb,h5.kept hb⟩
 unfold Stb at *
 rw [hb.block _ ((Array.getElem?_eq_some_iff.1 h3).1)]
 exact h3
end Go.Proofs.YtpljdjmpamjkhaaGreatDoor
set_option linter.unusedVariables false
set_option linter.unusedSimpArgs false
set_option maxRecDepth 100000
set_option maxHeartbeats 2000000
namespace Go.Proofs.YtpljdjmpamjkhaaGreatDoor
open Go.RowKit Go.Lib
def IdxOf (P:Cl->Bool) (cs:List Cl) (z:Int):Prop:=(z=-1/\∀ j (h:j<cs.length),P cs[j]=false)∨(∃ k,∃ (h:k<cs.length),z=(k:Int)/\P cs[k]=true/\∀ j (h:j<cs.length),j<k->P cs[j]=false)
theorem idxNull_any {w:World} {v:Value} {cs:List Cl} (hs:Sv w v (vvals cs)) (hf:∀ c∈cs,Fine c):Calls Tryz.prog 143 #[v,.func (.func 99) #[] #[]] w fun e w'=>(∃ z:Int,e=.returned (.int .i64 z)/\IdxOf (fun c=>decide (c.1=0)) cs z)/\Below w.heap.size w w':=by
 have HS:=hidden hs
 have HF:=hidden hf
 obtain ⟨a,cap,rfl,hcap,hcm⟩:=hs.form1
 rw [vvals_length] at *
 have hcm':cap<=9223372036854775807:=by unfold maxLen at hcm;omega
 clear hs hf hcm
 go_enter Tryz.func143,Tryz.ntmps143
 go_wp2_with fail
 go_loopw [8] (fun i wr=>∃ k:Nat,k<=cs.length/\i=.int .i64 (k:Int)/\(∀ j (h:j<cs.length),j<k->(fun c:Cl=>decide (c.1=0)) cs[j]=false)/\Below w.heap.size w wr) (fun i _=>cs.length-(intOf i).toNat)
 case atStart=>exact ⟨0,by omega,rfl,fun j h hj=>by omega,Below.refl _ _⟩
 case round =>
  obtain ⟨k,hk,rfl,hall,hbel⟩:=hrel
  have HA:=hidden hall
  have HB:=hidden hbel
  clear hall hbel
  by_cases hlt:k<cs.length
  ·obtain ⟨b,off,rfl,hb,z⟩:=(HS.out.kept HB.out).at1 (vvals_get hlt)
   have hlt':(k:Int)<(cs.length:Int):=by omega
   have HC:=hidden (isnull_any (HF.out cs[k] (List.getElem_mem hlt)))
   have HP:Hid ((fun c:Cl=>decide (c.1=0)) cs[k]=(fun c:Cl=>decide (c.1=0)) cs[k]):=hidden rfl
   obtain ⟨pv,hpv⟩:∃ pv,pv=(fun c:Cl=>decide (c.1=0)) cs[k]:=⟨_,rfl⟩
   have HPV:=hidden hpv
   rw [show (decide (cs[k].1=0))=pv from hpv.symm] at HC
   clear hpv HP
   generalize hck:cs[k]=c at *
   have HCK:=hidden hck
   clear hck
   go_wp2_with fail
   refine (HC.out _).mono ?_
   rintro e w2 ⟨rfl,hb2⟩
   have HB2:=hidden (below_then HB.out hb2)
   clear hb2
   cases pv
   ·go_wp2_with fail
    go_roundw
    case rel=>exact ⟨k+1,by omega,by go_num,fun j h hj=>by
     by_cases hjk:j=k
     ·subst hjk
      rw [HCK.out]
      exact HPV.out.symm
     ·exact HA.out j h (by omega),HB2.out⟩
    case measure=>simp [intOf];omega
   ·go_wp2_with fail
    go_ret
    exact ⟨⟨(k:Int),rfl,Or.inr ⟨k,hlt,rfl,by rw [HCK.out];exact HPV.out.symm,HA.out⟩⟩,HB2.out⟩
  ·obtain rfl:k=cs.length:=by omega
   have hge:¬ ((cs.length:Nat):Int)<(cs.length:Int):=by omega
   go_wp2_with fail
   go_ret
   exact ⟨⟨-1,rfl,Or.inl ⟨rfl,fun j h=>HA.out j h h⟩⟩,HB.out⟩
theorem idxUnclean_any {w:World} {v:Value} {cs:List Cl} (hs:Sv w v (vvals cs)) (hf:∀ c∈cs,Fine c):Calls Tryz.prog 143 #[v,.func (.func 102) #[] #[]] w fun e w'=>(∃ z:Int,e=.returned (.int .i64 z)/\IdxOf (fun c=>!clean (lb (bytesT c.2.2))) cs z)/\Below w.heap.size w w':=by
 have HS:=hidden hs
 have HF:=hidden hf
 obtain ⟨a,cap,rfl,hcap,hcm⟩:=hs.form1
 rw [vvals_length] at *
 have hcm':cap<=9223372036854775807:=by unfold maxLen at hcm;omega
 clear hs hf hcm
 go_enter Tryz.func143,Tryz.ntmps143
 go_wp2_with fail
 go_loopw [8] (fun i wr=>∃ k:Nat,k<=cs.length/\i=.int .i64 (k:Int)/\(∀ j (h:j<cs.length),j<k->(fun c:Cl=>!clean (lb (bytesT c.2.2))) cs[j]=false)/\Below w.heap.size w wr) (fun i _=>cs.length-(intOf i).toNat)
 case atStart=>exact ⟨0,by omega,rfl,fun j h hj=>by omega,Below.refl _ _⟩
 case round =>
  obtain ⟨k,hk,rfl,hall,hbel⟩:=hrel
  have HA:=hidden hall
  have HB:=hidden hbel
  clear hall hbel
  by_cases hlt:k<cs.length
  ·obtain ⟨b,off,rfl,hb,z⟩:=(HS.out.kept HB.out).at1 (vvals_get hlt)
   have hlt':(k:Int)<(cs.length:Int):=by omega
   have HC:=hidden (unclean_any (HF.out cs[k] (List.getElem_mem hlt)))
   have HP:Hid ((fun c:Cl=>!clean (lb (bytesT c.2.2))) cs[k]=(fun c:Cl=>!clean (lb (bytesT c.2.2))) cs[k]):=hidden rfl
   obtain ⟨pv,hpv⟩:∃ pv,pv=(fun c:Cl=>!clean (lb (bytesT c.2.2))) cs[k]:=⟨_,rfl⟩
   have HPV:=hidden hpv
   rw [show (!clean (lb (bytesT cs[k].2.2)))=pv from hpv.symm] at HC
   clear hpv HP
   generalize hck:cs[k]=c at *
   have HCK:=hidden hck
   clear hck
   go_wp2_with fail
   refine (HC.out _).mono ?_
   rintro e w2 ⟨rfl,hb2⟩
   have HB2:=hidden (below_then HB.out hb2)
   clear hb2
   cases pv
   ·go_wp2_with fail
    go_roundw
    case rel=>exact ⟨k+1,by omega,by go_num,fun j h hj=>by
     by_cases hjk:j=k
     ·subst hjk
      rw [HCK.out]
      exact HPV.out.symm
     ·exact HA.out j h (by omega),HB2.out⟩
    case measure=>simp [intOf];omega
   ·go_wp2_with fail
    go_ret
    exact ⟨⟨(k:Int),rfl,Or.inr ⟨k,hlt,rfl,by rw [HCK.out];exact HPV.out.symm,HA.out⟩⟩,HB2.out⟩
  ·obtain rfl:k=cs.length:=by omega
   have hge:¬ ((cs.length:Nat):Int)<(cs.length:Int):=by omega
   go_wp2_with fail
   go_ret
   exact ⟨⟨-1,rfl,Or.inl ⟨rfl,fun j h=>HA.out j h h⟩⟩,HB.out⟩
end Go.Proofs.YtpljdjmpamjkhaaGreatDoor
set_option linter.unusedVariables false
set_option linter.unusedSimpArgs false
set_option maxRecDepth 100000
set_option maxHeartbeats 4000000
namespace Go.Proofs.YtpljdjmpamjkhaaGreatDoor
open Go.RowKit Go.Lib
theorem wpList_append_vs {w:World} {ops:Array Oper} {rest:List Oper} {o:Oper} {a:Act} {Q:Exit->Act->World->Prop} (hgd:o.guard=none) (s x:Operand)
  (ho:o.op=.call { callee:=.builtin .append,args:=#[s,x],argTypes:=#[79,79] })
  (base:Nat) (v:Value) (ad:Addr) (cap:Nat) (l0 l:List Cl) (hs:a.eval s=v) (hown:OwnV w base v l0) (hx:a.eval x=.slice (some ad) l.length cap) (hsl:Sv w (.slice (some ad) l.length cap) (vvals l))
  (hbytes:l0.length+l.length<=100000) (hbase:base<=w.heap.size)
  (h:∀ v' w',OwnV w' base v' (l0++l)->Below base w w'->wpList Tryz.prog ops Q rest (a.put o.dst v') w') :
  wpList Tryz.prog ops Q (o::rest) a w:=by
 obtain ⟨i0,hi,hz0,hz1',hz2⟩:=info_parts info78
 unfold OwnV at *
 obtain ⟨ad',cap',hse,h1,h2,h3,h4⟩:=hsl
 simp only [Value.slice.injEq] at hse
 obtain ⟨rfl,_,rfl⟩:=hse
 rw [vvals_length] at *
 refine wpList_append_own_at (w:=w) hgd s x 79 ho base 78 i0 .nilIface 1 16 Tryz.underlying79 hi hz0 hz1' hz2 rfl (by decide) v l0.length (vvals l0) hs hown ad l.length cap (vvals l) hx (by rw [vvals_length];omega) ?_ (vvals_oneCell l) (by unfold maxLen;omega) (by omega) hbase ?_
 ·intro j u hu
  have hj:j<l.length:=by
   have:=(List.getElem?_eq_some_iff.1 hu).1
   rwa [vvals_length] at this
  obtain ⟨b,off,h5,_,h6⟩:=h4 (by omega)
  cases h5
  rw [addj]
  exact h6 j u hu
 ·intro v' w' o1 g1 _ _
  refine h v' w' ?_ ((Below.refl base w).grown g1 hbase (fun k hk=>(hown.lt k hk).1))
  rw [vvals_append,List.length_append]
  exact o1
theorem cloneV_any {w:World} {v:Value} {cs:List Cl} (hs:Sv w v (vvals cs)) (hl:cs.length<=1000):Calls Tryz.prog 57 #[v] w fun e w'=>(∃ v',e=.returned v'/\OwnV w' w.heap.size v' cs)/\Below w.heap.size w w':=by
 have HS:=hidden hs
 obtain ⟨ad,cap,rfl,h1,h2,h3,h4⟩:=hs
 rw [vvals_length] at *
 cases ad with
 | none =>
  have hc:=h3 rfl
  subst hc
  have hl0:cs=[]:=List.eq_nil_of_length_eq_zero (by omega)
  subst hl0
  have hq:(binOp .eql 79 (.slice none 0 0) (.slice none 0 0)).run Tryz.prog w=.ok (.bool true) w:=run_eql_slice_nil w 79 78 none 0 0 0 0 Tryz.underlying79
  go_enter Tryz.func57,Tryz.ntmps57
  go_wp2_with fail
  go_ret
  exact ⟨⟨_,rfl,OwnV.nil _ _⟩,Below.refl _ _⟩
 | some ad =>
  have HN:Hid (OwnV (w.alloc (.cells #[] 78)) w.heap.size (.slice (some ⟨w.heap.size,0,none⟩) 0 0) []):=hidden (World.ownsRow_lit (e:=78) (size:=1) w #[] 0 (base:=w.heap.size) (Nat.le_refl _) (by unfold maxLen;omega) rfl)
  have HS2:=hidden (HS.out.kept (below_one w (.cells #[] 78)))
  clear h3 h4
  have hq:(binOp .eql 79 (.slice (some ad) cs.length cap) (.slice none 0 0)).run Tryz.prog w=.ok (.bool false) w:=run_eql_slice_nil w 79 78 (some ad) cs.length cap 0 0 Tryz.underlying79
  go_enter Tryz.func57,Tryz.ntmps57
  go_wp2_with (first | (at_builtin;refine wpList_append_vs rfl _ _ rfl w.heap.size _ ad cap [] cs rfl ?q1 rfl ?q2 ?c1 ?c2 ?_))
  case q1=>exact HN.out
  case q2=>exact HS2.out
  case c1=>simp;omega
  case c2=>rw [World.size_alloc];omega
  intro v3 w3 o3 hb3
  have HO3:=hidden o3
  have HB3:=hidden ((below_one w (.cells #[] 78)).trans hb3)
  clear o3 hb3
  go_wp2_with fail
  go_ret
  exact ⟨⟨_,rfl,HO3.out⟩,HB3.out⟩
def nonN (cs:List Cl):List Cl:=cs.filter fun c=>!decide (c.1=0)
theorem nonN_all {cs:List Cl} (h:∀ j (h:j<cs.length),decide (cs[j].1=0)=false):nonN cs=cs:=by
 unfold nonN
 rw [List.filter_eq_self]
 intro c hc
 obtain ⟨j,hj,rfl⟩:=List.mem_iff_getElem.1 hc
 rw [h j hj]
 rfl
theorem nonN_step {cs:List Cl} {j:Nat} (h:j<cs.length):nonN (cs.take (j+1))=nonN (cs.take j)++(if cs[j].1=0 then [] else [cs[j]]):=by
 unfold nonN
 rw [List.take_add_one,List.getElem?_eq_getElem h,List.filter_append]
 congr 1
 by_cases hc:cs[j].1=0
 ·simp [hc]
 ·simp [hc]
def Del (cs:List Cl) (xs:List Value) (i j:Nat):Prop:=xs.length=cs.length/\i<j/\j<=cs.length/\xs.take i=vvals (nonN (cs.take j))/\xs.drop j=vvals (cs.drop j)
theorem Del.skip {cs:List Cl} {xs:List Value} {i j:Nat} (h:Del cs xs i j) (hj:j<cs.length) (hn:cs[j].1=0):Del cs xs i (j+1):=by
 obtain ⟨h1,h2,h3,h4,h5⟩:=h
 refine ⟨h1,by omega,by omega,?_,?_⟩
 ·rw [nonN_step hj,if_pos hn,List.append_nil]
  exact h4
 ·rw [← List.drop_drop,h5]
  unfold vvals
  rw [← List.map_drop,List.drop_drop]
theorem Del.keep {cs:List Cl} {xs:List Value} {i j:Nat} (h:Del cs xs i j) (hj:j<cs.length) (hn:¬ cs[j].1=0):Del cs (xs.set i (valC cs[j])) (i+1) (j+1):=by
 obtain ⟨h1,h2,h3,h4,h5⟩:=h
 refine ⟨by rw [List.length_set];exact h1,by omega,by omega,?_,?_⟩
 ·rw [nonN_step hj,if_neg hn,vvals_append,← h4,List.take_add_one,List.take_set_of_le (by omega),List.getElem?_set_self (by omega)]
  rfl
 ·rw [List.drop_set_of_lt (by omega),← List.drop_drop,h5]
  unfold vvals
  rw [← List.map_drop,List.drop_drop]
theorem Del.get {cs:List Cl} {xs:List Value} {i j:Nat} (h:Del cs xs i j) (hj:j<cs.length):xs[j]?=some (valC cs[j]):=by
 obtain ⟨h1,h2,h3,h4,h5⟩:=h
 have:=congrArg (fun l=>l[0]?) h5
 simp only [List.getElem?_drop,Nat.add_zero] at this
 rw [this]
 unfold vvals
 rw [List.getElem?_map,List.getElem?_drop,Nat.add_zero,List.getElem?_eq_getElem hj]
 rfl
theorem Del.start {cs:List Cl} {k:Nat} (hk:k<cs.length) (hn:cs[k].1=0) (hall:∀ j (h:j<cs.length),j<k->decide (cs[j].1=0)=false):Del cs (vvals cs) k (k+1):=by
 refine ⟨vvals_length _,by omega,by omega,?_,?_⟩
 ·rw [nonN_step hk,if_pos hn,List.append_nil,nonN_all (cs:=cs.take k)]
  ·unfold vvals
   rw [List.map_take]
  ·intro j hj
   rw [List.getElem_take]
   exact hall j (by rw [List.length_take] at hj;omega) (by rw [List.length_take] at hj;omega)
 ·unfold vvals
  rw [List.map_drop]
theorem Del.len {cs:List Cl} {xs:List Value} {i j:Nat} (h:Del cs xs i j):(nonN (cs.take j)).length=i:=by
 obtain ⟨h1,h2,h3,h4,h5⟩:=h
 have:=congrArg List.length h4
 rw [vvals_length,List.length_take] at this
 omega
theorem deleteNull_any {w:World} {B:Nat} {v:Value} {cs:List Cl} (ho:OwnV w B v cs) (hf:∀ c∈cs,Fine c) (hBw:B<=w.heap.size):Calls Tryz.prog 98 #[v,.func (.func 99) #[] #[]] w fun e w'=>(∃ v',e=.returned v'/\Sv w' v' (vvals (nonN cs)))/\Below B w w':=by
 have HO:=hidden ho
 have HF:=hidden hf
 obtain ⟨a,cap,rfl,hcap,hcm⟩:=own_slice ho
 have hcm':cap<=9223372036854775807:=by unfold maxLen at hcm;omega
 have HI:=hidden (idxNull_any ho.sv hf)
 have HCM:=hidden hcm
 clear ho hf hcm
 go_enter Tryz.func98,Tryz.ntmps98
 go_wp2_with fail
 refine HI.out.mono ?_
 rintro e w1 ⟨⟨z,rfl,hz⟩,hb1⟩
 have HB1:=hidden (hb1.mono hBw)
 have HO1:=hidden (HO.out.kept hb1)
 clear hb1 HI HO
 rcases hz with ⟨rfl,hall⟩ | ⟨k0,hk0,rfl,hp,hall⟩
 ·have HN:=hidden (nonN_all hall)
  clear hall
  go_wp2_with fail
  go_ret
  refine ⟨⟨_,rfl,?_⟩,HB1.out⟩
  rw [HN.out]
  exact HO1.out.sv
 ·have HDS:=hidden (Del.start hk0 (by simpa using hp) hall)
  obtain ⟨g,cap',hge,hg1,hg2,_⟩:=(vown_form HO1.out).2 (by omega)
  simp only [Value.slice.injEq] at hge
  obtain ⟨rfl,_,rfl⟩:=hge
  have hn0:((k0:Int)==-1)=false:=beq_eq_false_iff_ne.2 (by omega)
  clear hp hall
  go_wp2_with fail
  go_loopw [5,6] (fun a b wr=>∃ (i j:Nat) (xs:List Value),a=.int .i64 (i:Int)/\b=.int .i64 (j:Int)/\Del cs xs i j/\wr.ownsRow B 78 1 (.slice (some ⟨g,0,none⟩) cs.length cap) cs.length xs/\Below B w wr) (fun _ b _=>cs.length-(intOf b).toNat)
  case atStart=>exact ⟨k0,k0+1,_,rfl,by go_num,HDS.out,HO1.out,HB1.out⟩
  case round =>
   obtain ⟨i,j,xs,rfl,rfl,hdel,how,hbel⟩:=hrel
   have HD:=hidden hdel
   have HO:=hidden how
   have HB:=hidden hbel
   have hij:=hdel.2.1
   have hjn:=hdel.2.2.1
   by_cases hlt:j<cs.length
   ·have hlt':(j:Int)<(cs.length:Int):=by omega
    have cj:=(how.cellAt j (by omega)).trans (hdel.get hlt)
    have fi:=how.frozenAt i
    obtain ⟨ci,hci⟩:∃ u,wr.cell? ⟨g,i,none⟩=some u:=by
     refine ⟨xs[i]'(by have:=hdel.1;omega),?_⟩
     rw [how.cellAt i (by omega),List.getElem?_eq_getElem]
    have HC:=hidden (isnull_any (HF.out cs[j] (List.getElem_mem hlt)))
    have HSK:=hidden (hdel.skip hlt)
    have HKP:=hidden (hdel.keep hlt)
    clear hdel how hbel
    generalize hck:cs[j]=c at *
    clear hck
    have hin:(i:Int)<(cs.length:Int):=by omega
    go_wp2_with fail
    refine (HC.out _).mono ?_
    rintro e w3 ⟨rfl,hb3⟩
    have HB3:=hidden (HB.out.trans (hb3.mono (Nat.le_trans hBw HB.out.size)))
    have HO3:=hidden (own_kept HO.out hb3)
    have fi3:=HO3.out.frozenAt i
    have ci3:=(hb3.cell (p:=⟨g,i,none⟩) (show g<wr.heap.size by have:=HO.out.lt g rfl;omega)).trans hci
    clear hb3 fi cj hci
    by_cases hc0:c.1=0
    ·rw [show decide (c.1=0)=true from decide_eq_true hc0]
     have HD2:=hidden (HSK.out hc0)
     go_wp2_with fail
     go_roundw
     case rel=>exact ⟨i,j+1,xs,rfl,by go_num,HD2.out,HO3.out,HB3.out⟩
     case measure=>simp [intOf];omega
    ·rw [show decide (c.1=0)=false from decide_eq_false hc0]
     have HD2:=hidden (HKP.out hc0)
     obtain ⟨ty,u,hvc⟩:=valC_form c hc0
     rw [hvc] at HD2 ⊢
     clear hvc HC HKP HSK
     go_wp2_with fail
     go_roundw
     case rel=>exact ⟨i+1,j+1,_,by go_num,by go_num,HD2.out,(HO3.out.stored i _).1,HB3.out.setCell (p:=⟨g,i,none⟩) hg2 _⟩
     case measure=>simp [intOf];omega
   ·obtain rfl:j=cs.length:=by omega
    have hge:¬ ((cs.length:Nat):Int)<(cs.length:Int):=by omega
    have HLN:Hid ((nonN cs).length=i):=hidden (by have:=hdel.len;rwa [List.take_length] at this)
    have HTK:Hid (xs.take i=vvals (nonN cs)):=hidden (by have:=hdel.2.2.2.1;rwa [List.take_length] at this)
    have hin:(i:Int)<=(cs.length:Int):=by omega
    have hin2:i<=cs.length:=by omega
    have hxl:=hdel.1
    have hz61:∀ w,(zeroValue 78).run Tryz.prog w=.ok .nilIface w:=fun w=>by kernel_rfl
    have hcl:∀ ty,(Builtin.clear_ #[79] ty #[.slice (some ⟨g,i,none⟩) (cs.length-i) (cap-i)]).run Tryz.prog wr=.ok (.tuple #[]) (wr.setCells g i (List.replicate (cs.length-i) .nilIface)):=fun ty=>run_clear_slice wr 79 78 ty .nilIface Tryz.underlying79 hz61 rfl rfl g i (cs.length-i) (cap-i) (by omega) (fun t ht=>by
     rw [how.cellAt (i+t) (by omega),List.getElem?_eq_getElem (by omega)]
     rfl) (fun t ht=>how.frozenAt (i+t))
    clear hz61
    have HSV:Hid (Sv (wr.setCells g i (List.replicate (cs.length-i) .nilIface)) (.slice (some ⟨g,0,none⟩) i cap) (vvals (nonN cs))):=hidden ⟨some ⟨g,0,none⟩,cap,by rw [vvals_length,HLN.out],by rw [vvals_length,HLN.out];omega,HCM.out,fun h=>by simp at h,fun h0=>⟨g,0,rfl,by
     have:=(below_setCells_w (B:=0) (g:=g) (Nat.zero_le _) (List.replicate (cs.length-i) .nilIface) i wr).size
     have:=how.lt g rfl
     omega,fun t x hx=>by
     have ht:t<i:=by
      have:=(List.getElem?_eq_some_iff.1 hx).1
      rw [vvals_length,HLN.out] at this
      exact this
     rw [Nat.zero_add,World.cell?_setCells_out g _ i wr ⟨g,t,none⟩ (fun _ _=>Or.inl ht),how.cellAt t (by omega)]
     rw [← HTK.out,List.getElem?_take_of_lt ht] at hx
     exact hx⟩⟩
    have HBS:=hidden (HB.out.trans (below_setCells_w hg2 (List.replicate (cs.length-i) .nilIface) i wr))
    clear hdel how hbel hxl
    go_wp2_with fail
    go_ret
    exact ⟨⟨_,rfl,HSV.out⟩,HBS.out⟩
end Go.Proofs.YtpljdjmpamjkhaaGreatDoor
set_option linter.unusedVariables false
set_option linter.unusedSimpArgs false
set_option maxRecDepth 100000
set_option maxHeartbeats 2000000
namespace Go.Proofs.YtpljdjmpamjkhaaGreatDoor
open Go.RowKit Go.Lib
theorem IdxOf.any {P:Cl->Bool} {cs:List Cl} {z:Int} (h:IdxOf P cs z):decide (z>=0)=cs.any P:=by
 rcases h with ⟨rfl,h⟩ | ⟨k,hk,rfl,h,_⟩
 ·rw [show decide ((-1:Int)>=0)=false from rfl,eq_comm,List.any_eq_false]
  intro c hc
  obtain ⟨j,hj,rfl⟩:=List.mem_iff_getElem.1 hc
  simp [h j hj]
 ·rw [show decide ((k:Int)>=0)=true from decide_eq_true (by omega),eq_comm,List.any_eq_true]
  exact ⟨cs[k],List.getElem_mem hk,h⟩
def cleanC (c:Cl):Bool:=clean (lb (bytesT c.2.2))
theorem hasUnclean_any {w:World} {v:Value} {cs:List Cl} (hs:Sv w v (vvals cs)) (hf:∀ c∈cs,Fine c):Calls Tryz.prog 101 #[v,.func (.func 102) #[] #[]] w fun e w'=>e=.returned (.bool (!cs.all cleanC))/\Below w.heap.size w w':=by
 have HC:=hidden (idxUnclean_any hs hf)
 obtain ⟨a,cap,rfl,hcap,hcm⟩:=hs.form1
 clear hs hf
 go_enter Tryz.func101,Tryz.ntmps101
 go_wp2_with fail
 refine HC.out.mono ?_
 rintro e w1 ⟨⟨z,rfl,hz⟩,hb⟩
 have HZ:Hid (decide (z>=0)=!cs.all cleanC):=hidden (by
  rw [hz.any,List.not_all_eq_any_not]
  rfl)
 clear hz
 go_wp2_with fail
 go_ret
 rw [← HZ.out]
 exact ⟨rfl,hb⟩
def minC (m:Cl):List Cl->Cl
 | []=>m
 | x::r=>minC (if cmpC x m<0 then x else m) r
def maxC (m:Cl):List Cl->Cl
 | []=>m
 | x::r=>maxC (if 0<cmpC x m then x else m) r
theorem minC_step {m:Cl} {cs:List Cl} {i:Nat} (h:i<cs.length):minC m (cs.drop i)=minC (if cmpC cs[i] m<0 then cs[i] else m) (cs.drop (i+1)):=by
 rw [List.drop_eq_getElem_cons h];rfl
theorem maxC_step {m:Cl} {cs:List Cl} {i:Nat} (h:i<cs.length):maxC m (cs.drop i)=maxC (if 0<cmpC cs[i] m then cs[i] else m) (cs.drop (i+1)):=by
 rw [List.drop_eq_getElem_cons h];rfl
theorem minC_end {m:Cl} {cs:List Cl}:minC m (cs.drop cs.length)=m:=by rw [List.drop_length];rfl
theorem maxC_end {m:Cl} {cs:List Cl}:maxC m (cs.drop cs.length)=m:=by rw [List.drop_length];rfl
theorem minC_mem {P:Cl->Prop}:∀ {cs:List Cl} {m:Cl},P m->(∀ c∈cs,P c)->P (minC m cs)
 | [],m,h,_=>h
 | x::r,m,h,hr=>by
  unfold minC
  refine minC_mem ?_ fun c hc=>hr c (by simp [hc])
  split
  ·exact hr x (by simp)
  ·exact h
theorem maxC_mem {P:Cl->Prop}:∀ {cs:List Cl} {m:Cl},P m->(∀ c∈cs,P c)->P (maxC m cs)
 | [],m,h,_=>h
 | x::r,m,h,hr=>by
  unfold maxC
  refine maxC_mem ?_ fun c hc=>hr c (by simp [hc])
  split
  ·exact hr x (by simp)
  ·exact h
theorem minF_any {w:World} {v:Value} {cs:List Cl} (hs:Sv w v (vvals cs)) (hf:∀ c∈cs,Fine c) (hne:0<cs.length):Calls Tryz.prog 104 #[v,.func (.func 105) #[] #[]] w fun e w'=>e=.returned (valC (minC cs[0] (cs.drop 1)))/\Below w.heap.size w w':=by
 have HS:=hidden hs
 have HF:=hidden hf
 have HR:Hid (∃ R,R=minC cs[0] (cs.drop 1)):=hidden ⟨_,rfl⟩
 obtain ⟨R,hR⟩:=HR.out
 have HR2:=hidden hR
 rw [← hR]
 clear hR HR
 obtain ⟨a,cap,rfl,hcap,hcm⟩:=hs.form1
 rw [vvals_length] at *
 obtain ⟨b0,off0,rfl,hb0,z0⟩:=hs.at1 (vvals_get hne)
 have hcm':cap<=9223372036854775807:=by unfold maxLen at hcm;omega
 have HF0:=hidden (hf cs[0] (List.getElem_mem hne))
 have hge1:¬ (cs.length:Int)<1:=by omega
 have hlt0:(0:Int)<(cs.length:Int):=by omega
 rw [Nat.add_zero] at z0
 clear hs hf hcm
 generalize hc0:cs[0]=c0 at *
 clear hc0
 go_enter Tryz.func104,Tryz.ntmps104
 go_wp2_with fail
 clear z0
 go_loopw [5,6] (fun s i wr=>∃ (k:Nat) (m:Cl),1<=k/\k<=cs.length/\i=.int .i64 (k:Int)/\s=valC m/\Fine m/\R=minC m (cs.drop k)/\Below w.heap.size w wr) (fun _ i _=>cs.length-(intOf i).toNat)
 case atStart=>exact ⟨1,c0,by omega,by omega,rfl,rfl,HF0.out,HR2.out,Below.refl _ _⟩
 case round =>
  obtain ⟨k,m,hk1,hk,rfl,rfl,hfm,hfe,hbel⟩:=hrel
  have HFM:=hidden hfm
  have HE:=hidden hfe
  have HB:=hidden hbel
  clear hfm hfe hbel HR2
  by_cases hlt:k<cs.length
  ·obtain ⟨b,off,he,hb,z⟩:=(HS.out.kept HB.out).at1 (vvals_get hlt)
   simp only [Option.some.injEq,Addr.mk.injEq,and_true] at he
   obtain ⟨rfl,rfl⟩:=he
   have hlt':(k:Int)<(cs.length:Int):=by omega
   have HFC:=hidden (HF.out cs[k] (List.getElem_mem hlt))
   have HT:=hidden (HE.out.trans (minC_step hlt))
   generalize cs[k]=c at *
   have HC:=hidden (fun W=>compare_cv HFC.out.val HFM.out.val W)
   rw [show cv (c.1:Int) c.2.1 (bytesT c.2.2) (m.1:Int) m.2.1 (bytesT m.2.2)=cmpC c m from rfl] at HC
   generalize cmpC c m=q at *
   clear HE
   go_wp2_with fail
   refine (HC.out _).mono ?_
   rintro e w2 ⟨rfl,hb2⟩
   have HB2:=hidden (below_then HB.out hb2)
   have z2:=(hb2.cell (p:=⟨b0,off0+k,none⟩) hb).trans z
   clear hb2 z
   by_cases hq:q<0
   ·rw [if_pos hq] at HT
    go_wp2_with fail
    go_roundw
    case rel=>exact ⟨k+1,c,by omega,by omega,by go_num,rfl,HFC.out,HT.out,HB2.out⟩
    case measure=>simp [intOf];omega
   ·rw [if_neg hq] at HT
    go_wp2_with fail
    go_roundw
    case rel=>exact ⟨k+1,m,by omega,by omega,by go_num,rfl,HFM.out,HT.out,HB2.out⟩
    case measure=>simp [intOf];omega
  ·obtain rfl:k=cs.length:=by omega
   have hge:¬ ((cs.length:Nat):Int)<(cs.length:Int):=by omega
   have HT:=hidden (HE.out.trans minC_end)
   clear HE
   go_wp2_with fail
   go_ret
   rw [HT.out]
   exact ⟨rfl,HB.out⟩
theorem maxF_any {w:World} {v:Value} {cs:List Cl} (hs:Sv w v (vvals cs)) (hf:∀ c∈cs,Fine c) (hne:0<cs.length):Calls Tryz.prog 107 #[v,.func (.func 105) #[] #[]] w fun e w'=>e=.returned (valC (maxC cs[0] (cs.drop 1)))/\Below w.heap.size w w':=by
 have HS:=hidden hs
 have HF:=hidden hf
 have HR:Hid (∃ R,R=maxC cs[0] (cs.drop 1)):=hidden ⟨_,rfl⟩
 obtain ⟨R,hR⟩:=HR.out
 have HR2:=hidden hR
 rw [← hR]
 clear hR HR
 obtain ⟨a,cap,rfl,hcap,hcm⟩:=hs.form1
 rw [vvals_length] at *
 obtain ⟨b0,off0,rfl,hb0,z0⟩:=hs.at1 (vvals_get hne)
 have hcm':cap<=9223372036854775807:=by unfold maxLen at hcm;omega
 have HF0:=hidden (hf cs[0] (List.getElem_mem hne))
 have hge1:¬ (cs.length:Int)<1:=by omega
 have hlt0:(0:Int)<(cs.length:Int):=by omega
 rw [Nat.add_zero] at z0
 clear hs hf hcm
 generalize hc0:cs[0]=c0 at *
 clear hc0
 go_enter Tryz.func107,Tryz.ntmps107
 go_wp2_with fail
 clear z0
 go_loopw [5,6] (fun s i wr=>∃ (k:Nat) (m:Cl),1<=k/\k<=cs.length/\i=.int .i64 (k:Int)/\s=valC m/\Fine m/\R=maxC m (cs.drop k)/\Below w.heap.size w wr) (fun _ i _=>cs.length-(intOf i).toNat)
 case atStart=>exact ⟨1,c0,by omega,by omega,rfl,rfl,HF0.out,HR2.out,Below.refl _ _⟩
 case round =>
  obtain ⟨k,m,hk1,hk,rfl,rfl,hfm,hfe,hbel⟩:=hrel
  have HFM:=hidden hfm
  have HE:=hidden hfe
  have HB:=hidden hbel
  clear hfm hfe hbel HR2
  by_cases hlt:k<cs.length
  ·obtain ⟨b,off,he,hb,z⟩:=(HS.out.kept HB.out).at1 (vvals_get hlt)
   simp only [Option.some.injEq,Addr.mk.injEq,and_true] at he
   obtain ⟨rfl,rfl⟩:=he
   have hlt':(k:Int)<(cs.length:Int):=by omega
   have HFC:=hidden (HF.out cs[k] (List.getElem_mem hlt))
   have HT:=hidden (HE.out.trans (maxC_step hlt))
   generalize cs[k]=c at *
   have HC:=hidden (fun W=>compare_cv HFC.out.val HFM.out.val W)
   rw [show cv (c.1:Int) c.2.1 (bytesT c.2.2) (m.1:Int) m.2.1 (bytesT m.2.2)=cmpC c m from rfl] at HC
   generalize cmpC c m=q at *
   clear HE
   go_wp2_with fail
   refine (HC.out _).mono ?_
   rintro e w2 ⟨rfl,hb2⟩
   have HB2:=hidden (below_then HB.out hb2)
   have z2:=(hb2.cell (p:=⟨b0,off0+k,none⟩) hb).trans z
   clear hb2 z
   by_cases hq:0<q
   ·rw [if_pos hq] at HT
    go_wp2_with fail
    go_roundw
    case rel=>exact ⟨k+1,c,by omega,by omega,by go_num,rfl,HFC.out,HT.out,HB2.out⟩
    case measure=>simp [intOf];omega
   ·rw [if_neg hq] at HT
    go_wp2_with fail
    go_roundw
    case rel=>exact ⟨k+1,m,by omega,by omega,by go_num,rfl,HFM.out,HT.out,HB2.out⟩
    case measure=>simp [intOf];omega
  ·obtain rfl:k=cs.length:=by omega
   have hge:¬ ((cs.length:Nat):Int)<(cs.length:Int):=by omega
   have HT:=hidden (HE.out.trans maxC_end)
   clear HE
   go_wp2_with fail
   go_ret
   rw [HT.out]
   exact ⟨rfl,HB.out⟩
end Go.Proofs.YtpljdjmpamjkhaaGreatDoor
