/- Values and cells as the program has them, over triples. -/
import Derived.Test.YtpljdjmpamjkhaaGreatDoorZac
set_option linter.unusedVariables false
set_option linter.unusedSimpArgs false
set_option maxRecDepth 100000
set_option maxHeartbeats 2000000
namespace Go.Proofs.YtpljdjmpamjkhaaGreatDoor
open Go.RowKit Go.Lib
theorem less_txt:∀ {l m:List Nat},Bs l->Bs m->Op.bytesLess (l.map Nat.toUInt8) (m.map Nat.toUInt8)=decide (l<m)
 | [],[],_,_=>by simp [Op.bytesLess]
 | [],y::t,_,_=>by simp [Op.bytesLess]
 | x::s,[],_,_=>by simp [Op.bytesLess]
 | x::s,y::t,hl,hm=>by
  have ih:=less_txt (l:=s) (m:=t) (fun z hz=>hl z (by simp [hz])) (fun z hz=>hm z (by simp [hz]))
  have hx:=hl x (by simp)
  have hy:=hm y (by simp)
  have h1:(x.toUInt8<y.toUInt8)=(x<y):=by
   rw [UInt8.lt_iff_toNat_lt]
   simp [Nat.mod_eq_of_lt hx,Nat.mod_eq_of_lt hy]
  have h2:(x.toUInt8==y.toUInt8)=decide (x=y):=by
   by_cases h:x=y
   ·simp [h]
   ·have:x.toUInt8≠y.toUInt8:=fun e=>h (by
     have:=congrArg UInt8.toNat e
     simpa [Nat.mod_eq_of_lt hx,Nat.mod_eq_of_lt hy] using this)
    simp [h,this]
  simp only [List.map_cons,Op.bytesLess,ih,h1,h2]
  have h3:(x::s<y::t)↔(x<y∨x=y/\s<t):=List.cons_lt_cons_iff
  by_cases h:x<y<;>by_cases h':x=y<;>by_cases h'':s<t<;>simp [h3,h,h',h'']
def valC (c:Nat×Int×List Nat):Value :=
 if c.1=0 then .nilIface else if c.1=1 then .iface 2 (.int .i64 c.2.1) else if c.1=2 then .iface 4 (.bool (decide (c.2.1=1))) else .iface 9 (txt c.2.2)
def vvals (l:List (Nat×Int×List Nat)):List Value:=l.map valC
def celC (c:Nat×Int×List Nat):List Value:=[.int .u8 (c.1:Int),.int .i64 c.2.1,txt c.2.2]
def cvals (l:List (Nat×Int×List Nat)):List Value:=l.flatMap celC
theorem vvals_length (l:List (Nat×Int×List Nat)):(vvals l).length=l.length:=List.length_map _
theorem vvals_append (a b:List (Nat×Int×List Nat)):vvals (a++b)=vvals a++vvals b:=List.map_append
theorem cvals_append (a b:List (Nat×Int×List Nat)):cvals (a++b)=cvals a++cvals b:=List.flatMap_append
theorem cvals_cons (c:Nat×Int×List Nat) (l:List (Nat×Int×List Nat)):cvals (c::l)=celC c++cvals l:=List.flatMap_cons
theorem cvals_length:∀ l:List (Nat×Int×List Nat),(cvals l).length=l.length*3
 | []=>rfl
 | c::t=>by
  rw [cvals_cons,List.length_append,cvals_length t,List.length_cons]
  simp [celC]
  omega
theorem vvals_get {l:List (Nat×Int×List Nat)} {j:Nat} (h:j<l.length):(vvals l)[j]?=some (valC l[j]):=by simp [vvals,h]
theorem cvals_get:∀ {l:List (Nat×Int×List Nat)} {j:Nat} (h:j<l.length),(cvals l)[j*3]?=some (.int .u8 (l[j].1:Int))/\(cvals l)[j*3+1]?=some (.int .i64 l[j].2.1)/\(cvals l)[j*3+2]?=some (txt l[j].2.2)
 | c::t,0,h=>by simp [cvals_cons,celC]
 | c::t,j+1,h=>by
  have ih:=cvals_get (l:=t) (j:=j) (by simpa using h)
  rw [cvals_cons]
  have e:∀ k,(celC c++cvals t)[(j+1)*3+k]?=(cvals t)[j*3+k]?:=fun k=>by
   rw [List.getElem?_append_right (by simp [celC];omega)]
   simp only [celC,List.length_cons,List.length_nil]
   congr 1
   omega
  have e0:=e 0
  simp only [Nat.add_zero] at e0
  rw [e0,e 1,e 2]
  simpa using ih
theorem valC_oneCell (c:Nat×Int×List Nat):(valC c).oneCell'=true:=by
 unfold valC
 split
 ·rfl
 ·split
  ·rfl
  ·split<;>rfl
theorem vvals_oneCell (l:List (Nat×Int×List Nat)):∀ u∈vvals l,u.oneCell'=true:=by
 intro u hu
 obtain ⟨x,_,rfl⟩:=List.mem_map.1 hu
 exact valC_oneCell x
def OwnV (W:World) (B:Nat) (v:Value) (l:List (Nat×Int×List Nat)):Prop:=W.ownsRow B 78 1 v l.length (vvals l)
def OwnC (W:World) (B:Nat) (v:Value) (l:List (Nat×Int×List Nat)):Prop:=W.ownsRow B 52 3 v l.length (cvals l)
theorem OwnV.nil (W:World) (B:Nat):OwnV W B (.slice none 0 0) []:=World.ownsRow_nil _ _ _ _
theorem OwnC.nil (W:World) (B:Nat):OwnC W B (.slice none 0 0) []:=World.ownsRow_nil _ _ _ _
theorem OwnV.kept {w w':World} {B:Nat} {v:Value} {l:List (Nat×Int×List Nat)} (h:OwnV w B v l) (hb:Below w.heap.size w w'):OwnV w' B v l:=own_kept h hb
theorem OwnC.kept {w w':World} {B:Nat} {v:Value} {l:List (Nat×Int×List Nat)} (h:OwnC w B v l) (hb:Below w.heap.size w w'):OwnC w' B v l:=own_kept h hb
theorem OwnV.sv {W:World} {B:Nat} {v:Value} {l:List (Nat×Int×List Nat)} (h:OwnV W B v l):Sv W v (vvals l):=Sv.of_own h
def Sc (W:World) (v:Value) (l:List (Nat×Int×List Nat)):Prop :=
 ∃ a cap,v=.slice a l.length cap/\l.length<=cap/\cap<=maxLen/\(0<l.length->∃ b off,a=some ⟨b,off,none⟩/\b<W.heap.size/\∀ j x,(cvals l)[j]?=some x->W.cell? ⟨b,off+j,none⟩=some x)
theorem Sc.kept {W W':World} {v:Value} {l:List (Nat×Int×List Nat)} (h:Sc W v l) (hb:Below W.heap.size W W'):Sc W' v l:=by
 obtain ⟨a,cap,h1,h2,h3,h4⟩:=h
 refine ⟨a,cap,h1,h2,h3,fun h0=>?_⟩
 obtain ⟨b,off,h5,h6,h7⟩:=h4 h0
 exact ⟨b,off,h5,Nat.lt_of_lt_of_le h6 hb.size,fun j x hj=>(hb.cell (p:=⟨b,off+j,none⟩) h6).trans (h7 j x hj)⟩
theorem OwnC.sc {W:World} {B:Nat} {v:Value} {l:List (Nat×Int×List Nat)} (h:OwnC W B v l):Sc W v l:=by
 rcases h with ⟨h0,⟨rfl,h1⟩ | ⟨g,cap,cur,rfl,h2,h3,h4,h5,h6,h7⟩⟩
 ·refine ⟨none,0,by rw [h1],by omega,by unfold maxLen;omega,fun h=>by omega⟩
 ·refine ⟨_,cap,rfl,h4,h5,fun _=>⟨g,0,rfl,(Array.getElem?_eq_some_iff.1 h3).1,fun j x hj=>?_⟩⟩
  rw [Nat.zero_add]
  simp only [World.cell?,h3]
  rw [← h7] at hj
  have hlt:=(List.getElem?_eq_some_iff.1 hj).1
  rw [List.length_take] at hlt
  rw [List.getElem?_take_of_lt (by omega)] at hj
  simpa using hj
theorem Sc.at {W:World} {a:Option Addr} {n cap:Nat} {l:List (Nat×Int×List Nat)} (h:Sc W (.slice a n cap) l) {k:Nat} (hk:k<l.length) :
  ∃ b off,a=some ⟨b,off,none⟩/\b<W.heap.size/\W.cell? ⟨b,off+k*3,none⟩=some (.int .u8 (l[k].1:Int))/\W.cell? ⟨b,off+k*3+1,none⟩=some (.int .i64 l[k].2.1)/\W.cell? ⟨b,off+k*3+2,none⟩=some (txt l[k].2.2):=by
 obtain ⟨a',cap',e,h1,h2,h4⟩:=h
 simp only [Value.slice.injEq] at e
 obtain ⟨rfl,_,_⟩:=e
 obtain ⟨b,off,rfl,h5,h6⟩:=h4 (by omega)
 obtain ⟨c0,c1,c2⟩:=cvals_get hk
 refine ⟨b,off,rfl,h5,h6 _ _ c0,?_,?_⟩
 ·rw [Nat.add_assoc]
  exact h6 _ _ c1
 ·rw [Nat.add_assoc]
  exact h6 _ _ c2
theorem cell_new (w:World) (v:Value) (t:Nat):(w.alloc (.cells #[v] t)).cell? ⟨w.heap.size,0,none⟩=some v:=by
 have:=cell_one_new w v t 0 v rfl
 rw [add0] at this
 exact this
theorem valC_null (c:Nat×Int×List Nat) (h:c.1=0):valC c=.nilIface:=if_pos h
theorem valC_form (c:Nat×Int×List Nat) (h:c.1≠0):∃ t u,valC c=.iface t u:=by
 unfold valC
 rw [if_neg h]
 split
 ·exact ⟨_,_,rfl⟩
 ·split
  ·exact ⟨_,_,rfl⟩
  ·exact ⟨_,_,rfl⟩
theorem wpList_append_v {w:World} {ops:Array Oper} {rest:List Oper} {o:Oper} {a:Act} {Q:Exit->Act->World->Prop} (hgd:o.guard=none) (s x:Operand)
  (ho:o.op=.call { callee:=.builtin .append,args:=#[s,x],argTypes:=#[79,79] })
  (base:Nat) (v:Value) (g:Nat) (z:Nat×Int×List Nat) (l0:List (Nat×Int×List Nat)) (hs:a.eval s=v) (hown:OwnV w base v l0) (hx:a.eval x=.slice (some ⟨g,0,none⟩) 1 1) (hc:w.cell? ⟨g,0,none⟩=some (valC z))
  (hbytes:l0.length<=100000) (hbase:base<=w.heap.size)
  (h:∀ v' w',OwnV w' base v' (l0++[z])->Below base w w'->wpList Tryz.prog ops Q rest (a.put o.dst v') w') :
  wpList Tryz.prog ops Q (o::rest) a w:=by
 obtain ⟨i0,hi,hz0,hz1',hz2⟩:=info_parts info78
 unfold OwnV at *
 refine wpList_append_own_at (w:=w) hgd s x 79 ho base 78 i0 .nilIface 1 16 Tryz.underlying79 hi hz0 hz1' hz2 rfl (by decide) v l0.length (vvals l0) hs hown ⟨g,0,none⟩ 1 1 [valC z] hx rfl ?_ (fun u hu=>by
  have:u=valC z:=by simpa using hu
  subst this
  exact valC_oneCell z) (by unfold maxLen;omega) (by omega) hbase ?_
 ·intro j u hu
  rw [add0]
  cases j with
  | zero =>
   simp only [List.getElem?_cons_zero,Option.some.injEq] at hu
   rw [← hu]
   exact hc
  | succ j=>simp at hu
 ·intro v' w' o1 g1 _ _
  refine h v' w' ?_ ((Below.refl base w).grown g1 hbase (fun k hk=>(hown.lt k hk).1))
  rw [vvals_append,List.length_append]
  exact o1
theorem info52:(Tryz.prog.info? 52).map (fun i=>(i.zero,i.size,i.bytes))=some (some (.agg #[.int .u8 0,.int .i64 0,.string ⟨#[]⟩]),3,32):=by kernel_rfl
theorem wpList_append_c {w:World} {ops:Array Oper} {rest:List Oper} {o:Oper} {a:Act} {Q:Exit->Act->World->Prop} (hgd:o.guard=none) (s x:Operand)
  (ho:o.op=.call { callee:=.builtin .append,args:=#[s,x],argTypes:=#[58,58] })
  (base:Nat) (v:Value) (g:Nat) (z:Nat×Int×List Nat) (l0:List (Nat×Int×List Nat)) (hs:a.eval s=v) (hown:OwnC w base v l0) (hx:a.eval x=.slice (some ⟨g,0,none⟩) 1 1)
  (hc0:w.cell? ⟨g,0,none⟩=some (.int .u8 (z.1:Int))) (hc1:w.cell? ⟨g,1,none⟩=some (.int .i64 z.2.1)) (hc2:w.cell? ⟨g,2,none⟩=some (txt z.2.2))
  (hbytes:l0.length<=100000) (hbase:base<=w.heap.size)
  (h:∀ v' w',OwnC w' base v' (l0++[z])->Below base w w'->wpList Tryz.prog ops Q rest (a.put o.dst v') w') :
  wpList Tryz.prog ops Q (o::rest) a w:=by
 obtain ⟨i0,hi,hz0,hz1',hz2⟩:=info_parts info52
 unfold OwnC at *
 refine wpList_append_own_at (w:=w) hgd s x 58 ho base 52 i0 (.agg #[.int .u8 0,.int .i64 0,.string ⟨#[]⟩]) 3 32 Tryz.underlying58 hi hz0 hz1' hz2 rfl (by decide) v l0.length (cvals l0) hs hown ⟨g,0,none⟩ 1 1 (celC z) hx rfl ?_ (fun u hu=>by
  unfold celC at hu
  simp only [List.mem_cons,List.not_mem_nil,or_false] at hu
  rcases hu with rfl | rfl | rfl<;>rfl) (by unfold maxLen;omega) (by omega) hbase ?_
 ·intro j u hu
  rw [add0]
  unfold celC at hu
  match j,hu with
  | 0,hu=>simp only [List.getElem?_cons_zero,Option.some.injEq] at hu;rw [← hu];exact hc0
  | 1,hu=>simp only [List.getElem?_cons_succ,List.getElem?_cons_zero,Option.some.injEq] at hu;rw [← hu];exact hc1
  | 2,hu=>simp only [List.getElem?_cons_succ,List.getElem?_cons_zero,Option.some.injEq] at hu;rw [← hu];exact hc2
  | j+3,hu=>simp at hu
 ·intro v' w' o1 g1 _ _
  refine h v' w' ?_ ((Below.refl base w).grown g1 hbase (fun k hk=>(hown.lt k hk).1))
  rw [cvals_append,List.length_append]
  have:cvals [z]=celC z:=by simp [cvals]
  rw [this]
  exact o1
def Fine (c:Nat×Int×List Nat):Prop :=
 c=nul∨(∃ n,c=(1,n,[])/\I64 n)∨(∃ n:Nat,c=(2,(n:Int),[])/\n<2)∨(∃ s,c=(3,0,s)/\s.length<=64/\Bs s)
theorem Fine.val {c:Nat×Int×List Nat} (h:Fine c):Val (valC c) (c.1:Int) c.2.1 (bytesT c.2.2):=by
 rcases h with rfl | ⟨n,rfl,h⟩ | ⟨n,rfl,h⟩ | ⟨n,rfl,h⟩
 ·exact Or.inl ⟨rfl,rfl,rfl,rfl⟩
 ·exact Or.inr (Or.inl ⟨rfl,rfl,rfl⟩)
 ·refine Or.inr (Or.inr (Or.inl ⟨decide (((n:Nat):Int)=1),rfl,rfl,?_,rfl⟩))
  obtain rfl | rfl:n=0∨n=1:=by omega
  ·rfl
  ·rfl
 ·exact Or.inr (Or.inr (Or.inr ⟨rfl,rfl,rfl⟩))
def Okc (c:Nat×Int×List Nat):Prop:=c.1<256/\I64 c.2.1/\Bs c.2.2
def fixC (c:Nat×Int×List Nat):Nat×Int×List Nat:=if flt (c.1:Int) c.2.1 (bytesT c.2.2)=0 then c else nul
theorem bytesT_empty {s:List Nat} (h:bytesT s=⟨#[]⟩):s=[]:=by
 have:=congrArg ByteArray.size h
 rw [bytesT_size] at this
 exact List.eq_nil_of_length_eq_zero this
theorem fixC_fine {c:Nat×Int×List Nat} (h:Okc c):Fine (fixC c):=by
 unfold fixC
 split
 ·next h0 =>
  obtain ⟨ck,cn,cs⟩:=c
  obtain ⟨g1,g2,g3⟩:=h
  simp only at *
  rcases flt_zero (by omega) h0 with ⟨a1,a2,a3⟩ | ⟨a1,a3⟩ | ⟨a1,a2,a3⟩ | ⟨a1,a2,a3⟩ | ⟨a1,a2,a3⟩
  ·have e1:ck=0:=by omega
   have e3:=bytesT_empty a3
   subst e1 a2 e3
   exact Or.inl rfl
  ·have e1:ck=1:=by omega
   have e3:=bytesT_empty a3
   subst e1 e3
   exact Or.inr (Or.inl ⟨cn,rfl,g2⟩)
  ·have e1:ck=2:=by omega
   have e3:=bytesT_empty a3
   subst e1 a2 e3
   exact Or.inr (Or.inr (Or.inl ⟨0,rfl,by omega⟩))
  ·have e1:ck=2:=by omega
   have e3:=bytesT_empty a3
   subst e1 a2 e3
   exact Or.inr (Or.inr (Or.inl ⟨1,rfl,by omega⟩))
  ·have e1:ck=3:=by omega
   subst e1 a2
   rw [bytesT_size] at a3
   exact Or.inr (Or.inr (Or.inr ⟨cs,rfl,a3,g3⟩))
 ·exact Or.inl rfl
theorem nul_flt:flt 0 0 (bytesT [])=0:=by simp [flt,tx,nfit,bytesT_nil,ByteArray.size]
theorem fine_flt {c:Nat×Int×List Nat} (h:Fine c):flt (c.1:Int) c.2.1 (bytesT c.2.2)=0:=by
 rcases h with rfl | ⟨n,rfl,_⟩ | ⟨n,rfl,hn⟩ | ⟨s,rfl,hs,_⟩
 ·exact nul_flt
 ·simp [flt,tx,nfit,bytesT_nil,ByteArray.size]
 ·obtain rfl | rfl:n=0∨n=1:=by omega
  ·simp [flt,tx,nfit,bytesT_nil,ByteArray.size]
  ·simp [flt,tx,nfit,bytesT_nil,ByteArray.size]
 ·have:¬ 64<((bytesT s).size:Int):=by rw [bytesT_size];omega
  simp [flt,tx,nfit,this]
theorem fixC_same {c:Nat×Int×List Nat} (h:Fine c):fixC c=c:=if_pos (fine_flt h)
theorem Fine.okc {c:Nat×Int×List Nat} (h:Fine c):Okc c:=by
 rcases h with rfl | ⟨n,rfl,h⟩ | ⟨n,rfl,hn⟩ | ⟨s,rfl,_,h⟩
 ·exact ⟨by simp [nul],by simp [nul,I64],fun x hx=>by simp [nul] at hx⟩
 ·exact ⟨by simp,h,fun x hx=>by simp at hx⟩
 ·exact ⟨by simp,by simp only [I64];omega,fun x hx=>by simp at hx⟩
 ·exact ⟨by simp,by simp [I64],h⟩
theorem val_valC {v:Value} {c:Nat×Int×List Nat} (hf:Fine c) (h:Val v (c.1:Int) c.2.1 (bytesT c.2.2)):v=valC c:=by
 rcases hf with rfl | ⟨n,rfl,_⟩ | ⟨n,rfl,hn⟩ | ⟨s,rfl,_⟩
 ·rcases h with ⟨h,_⟩ | ⟨_,h,_⟩ | ⟨b,_,h,_⟩ | ⟨_,h,_⟩
  ·exact h
  ·simp [nul] at h
  ·simp [nul] at h
  ·simp [nul] at h
 ·rcases h with ⟨_,h,_⟩ | ⟨h,_⟩ | ⟨b,_,h,_⟩ | ⟨_,h,_⟩
  ·simp at h
  ·exact h
  ·simp at h
  ·simp at h
 ·rcases h with ⟨_,h,_⟩ | ⟨_,h,_⟩ | ⟨b,h,_,h2,_⟩ | ⟨_,h,_⟩
  ·simp at h
  ·simp at h
  ·rw [h]
   simp only at h2
   obtain rfl | rfl:n=0∨n=1:=by omega
   ·cases b
    ·rfl
    ·simp at h2
   ·cases b
    ·simp at h2
    ·rfl
  ·simp at h
 ·rcases h with ⟨_,h,_⟩ | ⟨_,h,_⟩ | ⟨b,_,h,_⟩ | ⟨h,_⟩
  ·simp at h
  ·simp at h
  ·simp at h
  ·exact h
theorem fixed_parts (c:Nat×Int×List Nat):fk (c.1:Int) c.2.1 (bytesT c.2.2)=((fixC c).1:Int)/\fn (c.1:Int) c.2.1 (bytesT c.2.2)=(fixC c).2.1/\fs (c.1:Int) c.2.1 (bytesT c.2.2)=bytesT (fixC c).2.2:=by
 unfold fk fn fs fixC
 split
 ·exact ⟨rfl,rfl,rfl⟩
 ·exact ⟨rfl,rfl,rfl⟩
theorem fixC_any (c:Nat×Int×List Nat) (w:World):Calls Tryz.prog 73 #[.agg #[.int .u8 (c.1:Int),.int .i64 c.2.1,.string (bytesT c.2.2)]] w fun e w'=>e=.returned (.agg #[.int .u8 ((fixC c).1:Int),.int .i64 (fixC c).2.1,.string (bytesT (fixC c).2.2)])/\Below w.heap.size w w':=by
 have:=fix_any (c.1:Int) c.2.1 (bytesT c.2.2) (by omega) w
 rw [(fixed_parts c).1,(fixed_parts c).2.1,(fixed_parts c).2.2] at this
 exact this
theorem valueC_any {c:Nat×Int×List Nat} (h:Okc c) (w:World):Calls Tryz.prog 86 #[.agg #[.int .u8 (c.1:Int),.int .i64 c.2.1,.string (bytesT c.2.2)]] w fun e w'=>e=.returned (valC (fixC c))/\Below w.heap.size w w':=by
 have:=value_any (c.1:Int) c.2.1 (bytesT c.2.2) (by omega) w
 rw [(fixed_parts c).1,(fixed_parts c).2.1,(fixed_parts c).2.2] at this
 refine this.mono ?_
 rintro e w' ⟨⟨v,rfl,hv⟩,hb⟩
 rw [val_valC (fixC_fine h) hv]
 exact ⟨rfl,hb⟩
theorem Sc.form {W:World} {v:Value} {l:List (Nat×Int×List Nat)} (h:Sc W v l):∃ a cap,v=.slice a l.length cap/\l.length<=cap/\cap<=maxLen:=by
 obtain ⟨a,cap,h1,h2,h3,_⟩:=h
 exact ⟨a,cap,h1,h2,h3⟩
theorem row6_any {w:World} {v:Value} {l:List (Nat×Int×List Nat)} (hs:Sc w v l) (hok:∀ c∈l,Okc c) (hl:l.length<=600) :
  Calls Tryz.prog 42 #[v] w fun e w'=>(∃ v',e=.returned v'/\OwnV w' w.heap.size v' (l.map fixC))/\Below w.heap.size w w':=by
 have HS:=hidden hs
 have HK:=hidden hok
 obtain ⟨a,cap,rfl,hcap,hcm⟩:=hs.form
 have hcm':cap<=9223372036854775807:=by unfold maxLen at hcm;omega
 clear hs hok hcm
 go_enter Tryz.func42,Tryz.ntmps42
 go_wp2_with fail
 go_loopw [3,4] (fun o i wr=>∃ j:Nat,j<=l.length/\i=.int .i64 (j:Int)/\OwnV wr w.heap.size o ((l.take j).map fixC)/\Below w.heap.size w wr) (fun _ i _=>l.length-(intOf i).toNat)
 case atStart=>exact ⟨0,by omega,rfl,OwnV.nil _ _,Below.refl _ _⟩
 case round =>
  obtain ⟨j,hj,rfl,hown,hbel⟩:=hrel
  have HO:=hidden hown
  have HB:=hidden hbel
  have hzr:=hbel.size
  clear hown hbel
  by_cases hlt:j<l.length
  ·obtain ⟨g,off,rfl,hg,c0,c1,c2⟩:=(HS.out.kept HB.out).at hlt
   have hlt':(j:Int)<(l.length:Int):=by omega
   have HNX:Hid ((l.take (j+1)).map fixC=(l.take j).map fixC++[fixC l[j]]):=hidden (by
    rw [List.take_succ_eq_append_getElem hlt,List.map_append]
    rfl)
   have hlen':((l.take j).map fixC).length<=100000:=by rw [List.length_map,List.length_take];omega
   have HVA:=hidden (valueC_any (HK.out l[j] (List.getElem_mem hlt)))
   rw [txt_eq] at c2
   generalize fixC l[j]=fc at *
   generalize bytesT l[j].2.2=S at *
   generalize l[j].2.1=cn at *
   generalize l[j].1=ck at *
   generalize (l.take j).map fixC=LL at *
   go_wp2_with fail
   refine (HVA.out _).mono ?_
   rintro e w1 ⟨rfl,hb1⟩
   have HO1:=hidden (HO.out.kept hb1)
   have HB1:=hidden (HB.out.trans (hb1.mono hzr))
   have hz1:=hb1.size
   clear hb1 c0 c1 c2
   generalize hvc:valC fc=vc
   have hcn:∀ W:World,(W.alloc (.cells #[vc] 78)).cell? ⟨W.heap.size,0,none⟩=some (valC fc):=fun W=>by rw [hvc];exact cell_new _ _ _
   have HCN:=hidden hcn
   have hvf:vc=.nilIface∨∃ tt uu,vc=.iface tt uu:=by
    rw [← hvc]
    by_cases h0:fc.1=0
    ·exact Or.inl (valC_null fc h0)
    ·exact Or.inr (valC_form fc h0)
   clear hvc hcn
   rcases hvf with rfl | ⟨tt,uu,rfl⟩
   ·go_wp2_with (first | (at_builtin;refine wpList_append_v rfl _ _ rfl w.heap.size _ _ fc LL rfl (HO1.out.kept (below_one _ _)) rfl (HCN.out _) hlen' ?c2 ?_))
    case c2=>first | omega | (rw [World.size_alloc];omega)
    intro v' w5 o5 b5
    have HO5:=hidden o5
    have HB5:=hidden ((HB1.out.alloc (Nat.le_trans hzr hz1) _).trans b5)
    clear o5 b5
    go_wp2_with fail
    go_roundw
    case rel=>exact ⟨j+1,by omega,by go_num,by rw [HNX.out];exact HO5.out,HB5.out⟩
    case measure=>simp [intOf];omega
   ·go_wp2_with (first | (at_builtin;refine wpList_append_v rfl _ _ rfl w.heap.size _ _ fc LL rfl (HO1.out.kept (below_one _ _)) rfl (HCN.out _) hlen' ?c2 ?_))
    case c2=>first | omega | (rw [World.size_alloc];omega)
    intro v' w5 o5 b5
    have HO5:=hidden o5
    have HB5:=hidden ((HB1.out.alloc (Nat.le_trans hzr hz1) _).trans b5)
    clear o5 b5
    go_wp2_with fail
    go_roundw
    case rel=>exact ⟨j+1,by omega,by go_num,by rw [HNX.out];exact HO5.out,HB5.out⟩
    case measure=>simp [intOf];omega
  ·obtain rfl:j=l.length:=by omega
   rw [List.take_length] at HO
   have hge:¬ ((l.length:Nat):Int)<(l.length:Int):=by omega
   go_wp2_with fail
   go_ret
   exact ⟨⟨_,rfl,HO.out⟩,HB.out⟩
theorem cell_new3 (w:World) (x y z:Value) (t:Nat):(w.alloc (.cells #[x,y,z] t)).cell? ⟨w.heap.size,0,none⟩=some x/\(w.alloc (.cells #[x,y,z] t)).cell? ⟨w.heap.size,1,none⟩=some y/\(w.alloc (.cells #[x,y,z] t)).cell? ⟨w.heap.size,2,none⟩=some z:=by
 have h:=heap_alloc_new w (.cells #[x,y,z] t)
 exact ⟨by rw [cell_block h];rfl,by rw [cell_block h];rfl,by rw [cell_block h];rfl⟩
theorem fixRow_any {w:World} {v:Value} {l:List (Nat×Int×List Nat)} (hs:Sc w v l) (hl:l.length<=600) :
  Calls Tryz.prog 38 #[v] w fun e w'=>(∃ v',e=.returned v'/\OwnC w' w.heap.size v' (l.map fixC))/\Below w.heap.size w w':=by
 have HS:=hidden hs
 obtain ⟨a,cap,rfl,hcap,hcm⟩:=hs.form
 have hcm':cap<=9223372036854775807:=by unfold maxLen at hcm;omega
 clear hs hcm
 go_enter Tryz.func38,Tryz.ntmps38
 go_wp2_with fail
 go_loopw [3,4] (fun o i wr=>∃ j:Nat,j<=l.length/\i=.int .i64 (j:Int)/\OwnC wr w.heap.size o ((l.take j).map fixC)/\Below w.heap.size w wr) (fun _ i _=>l.length-(intOf i).toNat)
 case atStart=>exact ⟨0,by omega,rfl,OwnC.nil _ _,Below.refl _ _⟩
 case round =>
  obtain ⟨j,hj,rfl,hown,hbel⟩:=hrel
  have HO:=hidden hown
  have HB:=hidden hbel
  have hzr:=hbel.size
  clear hown hbel
  by_cases hlt:j<l.length
  ·obtain ⟨g,off,rfl,hg,c0,c1,c2⟩:=(HS.out.kept HB.out).at hlt
   have hlt':(j:Int)<(l.length:Int):=by omega
   have HNX:Hid ((l.take (j+1)).map fixC=(l.take j).map fixC++[fixC l[j]]):=hidden (by
    rw [List.take_succ_eq_append_getElem hlt,List.map_append]
    rfl)
   have hlen':((l.take j).map fixC).length<=100000:=by rw [List.length_map,List.length_take];omega
   have HVA:=hidden (fixC_any l[j])
   rw [txt_eq] at c2
   generalize fixC l[j]=fc at *
   generalize bytesT l[j].2.2=S at *
   generalize l[j].2.1=cn at *
   generalize l[j].1=ck at *
   generalize (l.take j).map fixC=LL at *
   go_wp2_with fail
   refine (HVA.out _).mono ?_
   rintro e w1 ⟨rfl,hb1⟩
   have HO1:=hidden (HO.out.kept hb1)
   have HB1:=hidden (HB.out.trans (hb1.mono hzr))
   have hz1:=hb1.size
   have HCN:=hidden (cell_new3 w1 (.int .u8 (fc.1:Int)) (.int .i64 fc.2.1) (.string (bytesT fc.2.2)) 52)
   clear hb1 c0 c1 c2
   go_wp2_with (first | (at_builtin;refine wpList_append_c rfl _ _ rfl w.heap.size _ _ fc LL rfl (HO1.out.kept (below_one _ _)) rfl HCN.out.1 HCN.out.2.1 HCN.out.2.2 hlen' ?c2 ?_))
   case c2=>first | omega | (rw [World.size_alloc];omega)
   intro v' w5 o5 b5
   have HO5:=hidden o5
   have HB5:=hidden ((HB1.out.alloc (Nat.le_trans hzr hz1) _).trans b5)
   clear o5 b5
   go_wp2_with fail
   go_roundw
   case rel=>exact ⟨j+1,by omega,by go_num,by rw [HNX.out];exact HO5.out,HB5.out⟩
   case measure=>simp [intOf];omega
  ·obtain rfl:j=l.length:=by omega
   rw [List.take_length] at HO
   have hge:¬ ((l.length:Nat):Int)<(l.length:Int):=by omega
   go_wp2_with fail
   go_ret
   exact ⟨⟨_,rfl,HO.out⟩,HB.out⟩
theorem take_succ_eq {α : Type} {l m:List α} {j:Nat} (h1:j<l.length) (h2:j<m.length) (h:l.take j=m.take j) (he:l[j]=m[j]):l.take (j+1)=m.take (j+1):=by
 rw [List.take_succ_eq_append_getElem h1,List.take_succ_eq_append_getElem h2,h,he]
end Go.Proofs.YtpljdjmpamjkhaaGreatDoor
