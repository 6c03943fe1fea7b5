import Derived.Test.YteampbddflhngaaGreatB08

namespace Go.Proofs.YteampbddflhngaaGreat
set_option maxRecDepth 100000
set_option maxHeartbeats 2000000
open Go.RowKit
variable {lo:Nat}
def zd1:ByteArray:=⟨#[44,32]⟩
def zdj:List ByteArray->ByteArray
 |[]=>ByteArray.empty
 |[t]=>t
 |t::r=>t++zd1++zdj r
theorem zr0:∀(l:List ByteArray) (x:ByteArray),l≠[]->zdj (l++[x])=zdj l++zd1++x
 |[],_,h=>absurd rfl h
 |[t],x,_=>rfl
 |t::u::r,x,_=>by
  show t++zd1++zdj (u::(r++[x]))=t++zd1++zdj (u::r)++zd1++x
  have:=zr0 (u::r) x (by simp)
  rw[List.cons_append] at this
  rw[this]
  simp only[ByteArray.append_assoc]
theorem zr4{l:List ByteArray}{k:Nat}(hk:k < l.length):zdj (l.take (k+1))=if k=0 then l[k] else zdj (l.take k)++zd1++l[k]:=by
 rw[List.take_succ_eq_append_getElem hk]
 split
 ·rename_i h;subst h;rfl
 ·rw[zr0]
  intro h
  have:=congrArg List.length h
  rw[List.length_take,List.length_nil] at this
  omega
theorem zs9(w:World)(v:Value)(l:List ByteArray)(hs:SIn lo w v l)(hl:l.length<=1000)(h6:∀ t∈l,t.size<=6) :
  Calls Tryz.prog 169 #[v] w fun e w'=>e=.returned (.string (zdj l))/\Below w.heap.size w w':=by
 obtain⟨ao,cap,rfl⟩:=hs.shape
 have H6:Hid (∀ t∈l,t.size<=6):=h6
 clear h6
 go_enter Tryz.func169,Tryz.ntmps169
 go_wp2
 go_loopw [3,8] (fun v3 v8 wr=>∃(k:Nat) (s:ByteArray),k<=l.length/\v8=.int .i64 k/\v3=.string s/\s.size<=8 * k/\Hid (s=zdj (l.take k))/\Below w.heap.size w wr) (fun _ i _=>l.length - (intOf i).toNat)
 case atStart=>exact⟨0,_,Nat.zero_le _,rfl,rfl,Nat.le_refl _,rfl,Below.refl _ _⟩
 case round =>
  obtain⟨k,s,hk,rfl,rfl,hsz,H,hbk⟩:=hrel
  have hszk:=hbk.size
  by_cases hlt:k < l.length
  ·obtain⟨g,rfl,hg,hck⟩:=hs.cell k hlt
   have hxk:=(hbk.cell (p:=⟨g,k,none⟩) hg).trans hck
   have hgr:g < wr.heap.size:=by omega
   have HJ:=zr4 hlt
   have hx6:=H6.out _ (List.getElem_mem hlt)
   clear hck
   generalize l[k]=x at *
   by_cases h0:k=0
   ·have HN:Hid (s++x=zdj (l.take (k+1))):=by rw[Hid,HJ,if_pos h0,H.out,h0];simp[zdj]
    subst h0
    clear HJ H
    go_wp2
    go_roundw
    case rel=>exact⟨1,s++x,by omega,by go_num,rfl,(by rw[ByteArray.size_append];omega),HN,(by repeat'(first|with_reducible(first|exact zR _ _|assumption|refine zN ?_ _|refine zA ?_ ?_ _|refine zD ?_|refine zS ?_ ?_ _)|go_size))⟩
    case measure=>simp[intOf];omega
   ·have HN:Hid (s++zd1++x=zdj (l.take (k+1))):=by rw[Hid,HJ,if_neg h0,H.out]
    have hc2:zd1.size=2:=rfl
    have hs2:(s++zd1).size=s.size+2:=by rw[ByteArray.size_append,hc2]
    clear HJ H
    go_wp2
    go_roundw
    case rel=>exact⟨k+1,s++zd1++x,by omega,by go_num,rfl,(by rw[ByteArray.size_append];omega),HN,(by repeat'(first|with_reducible(first|exact zR _ _|assumption|refine zN ?_ _|refine zA ?_ ?_ _|refine zD ?_|refine zS ?_ ?_ _)|go_size))⟩
    case measure=>simp[intOf];omega
  ·have HN:Hid (s=zdj l):=by rw[Hid,H.out,List.take_of_length_le (by omega)]
   clear H
   go_wp2
   go_ret
   exact⟨by rw[← HN.out];rfl,hbk⟩
def znt:ByteArray:=⟨#[33]⟩
def zl7:ByteArray:=⟨#[40]⟩
def zqx:ByteArray:=⟨#[41]⟩
def ztu(l:zbc):ByteArray:=if l.neg then znt++l.pred else l.pred
def zkf(l:zbc):ByteArray:=if l.args.length=0 then ztu l else ztu l++zl7++zdj l.args++zqx
theorem zmk:∀(l:List ByteArray),(∀ t∈l,t.size<=6)->(zdj l).size<=8 * l.length
 |[],_=>by simp[zdj]
 |[t],h=>by have:=h t (by simp);simp[zdj];omega
 |t::u::r,h=>by
  have h1:=h t (by simp)
  have h2:=zmk (u::r) fun x hx=>h x (List.mem_cons_of_mem _ hx)
  show(t++zd1++zdj (u::r)).size<=_
  rw[ByteArray.size_append,ByteArray.size_append,show zd1.size=2 from rfl]
  simp only[List.length_cons] at h2 ⊢
  omega
theorem z3f{l:zbc}(h:l.pred.size<=6):(ztu l).size<=7:=by
 unfold ztu;split
 ·rw[ByteArray.size_append,show znt.size=1 from rfl];omega
 ·omega
def zou(l:zbc):Prop:=l.pred.size<=6/\0 < l.pred.size/\l.args.length<=1000/\∀ t∈l.args,0 < t.size/\t.size<=6
theorem zo0{l:zbc}(h:zou l):(zkf l).size<=9+8 * l.args.length:=by
 obtain⟨h1,_,_,h4⟩:=h
 have h5:=z3f h1
 unfold zkf;split
 ·omega
 ·rw[ByteArray.size_append,ByteArray.size_append,ByteArray.size_append,show zl7.size=1 from rfl,show zqx.size=1 from rfl]
  have:=zmk l.args fun t ht=>(h4 t ht).2
  omega
theorem zoe(w:World)(l:zbc)(va:Value)(hs:SIn lo w va l.args)(hf:zou l) :
  Calls Tryz.prog 131 #[.agg #[.bool l.neg,.string l.pred,va]] w fun e w'=>e=.returned (.string (zkf l))/\Below w.heap.size w w':=by
 obtain⟨ao,cap,rfl⟩:=hs.shape
 obtain⟨h1,h2,h3,h4⟩:=hf
 have H4:Hid (∀ t∈l.args,t.size<=6):=fun t ht=>(h4 t ht).2
 have HS:Hid (∀ W,Below w.heap.size w W->Calls Tryz.prog 169 #[.slice ao l.args.length cap] W fun e w'=>e=.returned (.string (zdj l.args))/\Below W.heap.size W w'):=fun W hW=>zs9 W _ l.args (hs.below hW) h3 H4.out
 have hj:=zmk l.args H4.out
 have hb1:znt.size=1:=rfl
 have hb2:zl7.size=1:=rfl
 have hb3:zqx.size=1:=rfl
 clear h4
 cases hn:l.neg with
 |true =>
  have hp:(znt++l.pred).size<=7:=by rw[ByteArray.size_append];omega
  by_cases h0:l.args.length=0
  ·have HT:Hid (zkf l=znt++l.pred):=by unfold Hid zkf ztu;rw[if_pos h0,hn];rfl
   have h0b:((l.args.length:Int) == 0)=true:=by rw[beq_iff_eq];omega
   clear hn
   generalize zdj l.args=j at *
   generalize l.args.length=n at *
   go_enter Tryz.func131,Tryz.ntmps131
   go_wp2
   go_ret
   exact⟨by rw[HT.out];rfl,(by repeat'(first|with_reducible(first|exact zR _ _|assumption|refine zN ?_ _|refine zA ?_ ?_ _|refine zD ?_|refine zS ?_ ?_ _)|go_size))⟩
  ·have HT:Hid (zkf l=znt++l.pred++zl7++zdj l.args++zqx):=by unfold Hid zkf ztu;rw[if_neg h0,hn];rfl
   have h0b:((l.args.length:Int) == 0)=false:=by rw[beq_eq_false_iff_ne];omega
   have hq1:(znt++l.pred++zl7).size<=8:=by rw[ByteArray.size_append];omega
   have hq2:(znt++l.pred++zl7++zdj l.args).size<=8+8 * l.args.length:=by rw[ByteArray.size_append];omega
   clear hn
   generalize zdj l.args=j at *
   generalize l.args.length=n at *
   go_enter Tryz.func131,Tryz.ntmps131
   go_wp2_with (first|(go_at_call 169;refine(HS.out _ (by exact(by repeat'(first|with_reducible(first|exact zR _ _|assumption|refine zN ?_ _|refine zA ?_ ?_ _|refine zD ?_|refine zS ?_ ?_ _)|go_size)))).mono ?_;rintro e w1 ⟨rfl,hb1'⟩))
   go_ret
   exact⟨by rw[HT.out];rfl,zad ((Below.refl w.heap.size w).alloc (Nat.le_refl _) _) hb1' (Nat.le_refl _)⟩
 |false =>
  by_cases h0:l.args.length=0
  ·have HT:Hid (zkf l=l.pred):=by unfold Hid zkf ztu;rw[if_pos h0,hn];rfl
   have h0b:((l.args.length:Int) == 0)=true:=by rw[beq_iff_eq];omega
   clear hn
   generalize zdj l.args=j at *
   generalize l.args.length=n at *
   go_enter Tryz.func131,Tryz.ntmps131
   go_wp2
   go_ret
   exact⟨by rw[HT.out];rfl,(by repeat'(first|with_reducible(first|exact zR _ _|assumption|refine zN ?_ _|refine zA ?_ ?_ _|refine zD ?_|refine zS ?_ ?_ _)|go_size))⟩
  ·have HT:Hid (zkf l=l.pred++zl7++zdj l.args++zqx):=by unfold Hid zkf ztu;rw[if_neg h0,hn];rfl
   have h0b:((l.args.length:Int) == 0)=false:=by rw[beq_eq_false_iff_ne];omega
   have hq1:(l.pred++zl7).size<=8:=by rw[ByteArray.size_append];omega
   have hq2:(l.pred++zl7++zdj l.args).size<=8+8 * l.args.length:=by rw[ByteArray.size_append];omega
   clear hn
   generalize zdj l.args=j at *
   generalize l.args.length=n at *
   go_enter Tryz.func131,Tryz.ntmps131
   go_wp2_with (first|(go_at_call 169;refine(HS.out _ (by exact(by repeat'(first|with_reducible(first|exact zR _ _|assumption|refine zN ?_ _|refine zA ?_ ?_ _|refine zD ?_|refine zS ?_ ?_ _)|go_size)))).mono ?_;rintro e w1 ⟨rfl,hb1'⟩))
   go_ret
   exact⟨by rw[HT.out];rfl,zad ((Below.refl w.heap.size w).alloc (Nat.le_refl _) _) hb1' (Nat.le_refl _)⟩
end Go.Proofs.YteampbddflhngaaGreat

namespace Go.Proofs.YteampbddflhngaaGreat
set_option maxRecDepth 100000
set_option maxHeartbeats 2000000
open Go.RowKit
variable {lo:Nat}
def zlr:ByteArray:=⟨#[32,58,45,32]⟩
def z8z:ByteArray:=⟨#[46]⟩
def zlk:ByteArray:=⟨#[10]⟩
def bodyT(b:List zbc):ByteArray:=if b.length=0 then ByteArray.empty else zlr++zdj (b.map zkf)
def clT(c:zaa):ByteArray:=zkf c.head++bodyT c.body++z8z
def znn(c:zaa):Prop:=(∀ l∈za2 c,zou l)/\c.body.length<=1000
theorem z0m{b:List zbc}{k:Nat}(hk:k < b.length)(s:ByteArray):s++bodyT (b.take (k+1))=if k=0 then s++zlr++zkf b[k] else s++bodyT (b.take k)++zd1++zkf b[k]:=by
 have hl:(b.take (k+1)).length≠0:=by rw[List.length_take];omega
 have hj:zdj ((b.take (k+1)).map zkf)=if k=0 then zkf b[k] else zdj ((b.take k).map zkf)++zd1++zkf b[k]:=by
  have:=zr4 (l:=b.map zkf) (k:=k) (by simpa using hk)
  rw[← List.map_take,← List.map_take] at this
  simpa using this
 unfold bodyT
 rw[if_neg hl,hj]
 split
 ·rw[ByteArray.append_assoc]
 ·rw[if_neg (by rw[List.length_take];omega)]
  simp only[ByteArray.append_assoc]
theorem z1l(w:World)(c:zaa)(va vb:Value)(hs:SIn lo w va c.head.args)(hb:LIn lo w vb c.body)(hf:znn c) :
  Calls Tryz.prog 85 #[.agg #[.bool c.head.neg,.string c.head.pred,va,vb]] w fun e w'=>e=.returned (.string (clT c))/\Below w.heap.size w w':=by
 obtain⟨ao,cap,rfl⟩:=hs.shape
 obtain⟨aob,capb,rfl⟩:=hb.shape
 obtain⟨hf1,hf2⟩:=hf
 have HF:Hid (∀ l∈za2 c,zou l):=hf1
 have hh:=hf1 c.head (by simp[za2])
 have hhz:=zo0 hh
 have hhl:=hh.2.2.1
 have HH:Hid (∀ W,Below w.heap.size w W->Calls Tryz.prog 131 #[.agg #[.bool c.head.neg,.string c.head.pred,.slice ao c.head.args.length cap]] W fun e w'=>e=.returned (.string (zkf c.head))/\Below W.heap.size W w'):=fun W hW=>zoe W c.head _ (hs.below hW) hh
 have HC:Hid (clT c=zkf c.head++bodyT c.body++z8z):=rfl
 clear hf1 hh
 generalize clT c=tc at *
 generalize zkf c.head=th at *
 go_enter Tryz.func85,Tryz.ntmps85
 go_wp2_with (first|(go_at_call 131;refine(HH.out _ (by exact(by repeat'(first|with_reducible(first|exact zR _ _|assumption|refine zN ?_ _|refine zA ?_ ?_ _|refine zD ?_|refine zS ?_ ?_ _)|go_size)))).mono ?_;rintro e w1 ⟨rfl,hb1⟩;have hB1:=zad ((Below.refl w.heap.size w).alloc (Nat.le_refl _) (.cells #[.bool c.head.neg,.string c.head.pred,.slice ao c.head.args.length cap,.slice aob c.body.length capb] 171)) hb1 (Nat.le_refl _);have hbx1:=(Box.new w #[.bool c.head.neg,.string c.head.pred,.slice ao c.head.args.length cap,.slice aob c.body.length capb] 171).below hb1;obtain⟨hc1,hf1⟩:=hbx1.rules;have hlt1:=hbx1.lt))
 clear hc1 hf1
 go_loopw [3,12] (fun v3 v12 wr=>∃(k:Nat) (s:ByteArray),k<=c.body.length/\v12=.int .i64 k/\v3=.string s/\s.size<=10000 * (k+1)/\Hid (s=th++bodyT (c.body.take k))/\Below w.heap.size w wr) (fun _ i _=>c.body.length - (intOf i).toNat)
 case atStart=>exact⟨0,th,Nat.zero_le _,rfl,rfl,by omega,(by simp[Hid,bodyT]),hB1⟩
 case round =>
  obtain⟨k,s,hk,rfl,rfl,hsz,H,hbk⟩:=hrel
  have hszk:=hbk.size
  by_cases hlt:k < c.body.length
  ·obtain⟨gl,aol,capl,rfl,hgl,hl0,hl1,hl2,hsl⟩:=hb.cell k hlt
   have he0:=(hbk.cell (p:=⟨gl,k * 3,none⟩) hgl).trans hl0
   have he1:=(hbk.cell (p:=⟨gl,k * 3+1,none⟩) hgl).trans hl1
   have he2:=(hbk.cell (p:=⟨gl,k * 3+2,none⟩) hgl).trans hl2
   have hgr:gl < wr.heap.size:=by omega
   have HJ:=z0m hlt th
   have hfl:=HF.out c.body[k] (by simp[za2])
   have hslr:=hsl.below hbk
   clear hl0 hl1 hl2 hsl
   generalize c.body[k]=a at *
   have hla:=zo0 hfl
   have hla2:=hfl.2.2.1
   have HL:Hid (∀ W,Below wr.heap.size wr W->Calls Tryz.prog 131 #[.agg #[.bool a.neg,.string a.pred,.slice aol a.args.length capl]] W fun e w'=>e=.returned (.string (zkf a))/\Below W.heap.size W w'):=fun W hW=>zoe W a _ (hslr.below hW) hfl
   clear hslr hfl
   generalize zkf a=ta at *
   have hba:zlr.size=4:=rfl
   have hbc:zd1.size=2:=rfl
   by_cases h0:k=0
   ·have HN:Hid (s++zlr++ta=th++bodyT (c.body.take (k+1))):=by rw[Hid,HJ,if_pos h0,H.out,h0];simp[bodyT]
    have hq:(s++zlr).size=s.size+4:=by rw[ByteArray.size_append,hba]
    subst h0
    clear HJ H
    go_wp2_with (first|(go_at_call 131;refine(HL.out _ (by exact(by repeat'(first|with_reducible(first|exact zR _ _|assumption|refine zN ?_ _|refine zA ?_ ?_ _|refine zD ?_|refine zS ?_ ?_ _)|go_size)))).mono ?_;rintro e w2 ⟨rfl,hb2⟩;have hB2:Below w.heap.size w w2:=zad (hbk.alloc hszk _) hb2 (Nat.le_refl _)))
    go_roundw
    case rel=>exact⟨1,s++zlr++ta,by omega,by go_num,rfl,(by rw[ByteArray.size_append];omega),HN,hB2⟩
    case measure=>simp[intOf];omega
   ·have HN:Hid (s++zd1++ta=th++bodyT (c.body.take (k+1))):=by rw[Hid,HJ,if_neg h0,H.out]
    have hq:(s++zd1).size=s.size+2:=by rw[ByteArray.size_append,hbc]
    clear HJ H
    go_wp2_with (first|(go_at_call 131;refine(HL.out _ (by exact(by repeat'(first|with_reducible(first|exact zR _ _|assumption|refine zN ?_ _|refine zA ?_ ?_ _|refine zD ?_|refine zS ?_ ?_ _)|go_size)))).mono ?_;rintro e w2 ⟨rfl,hb2⟩;have hB2:Below w.heap.size w w2:=zad (hbk.alloc hszk _) hb2 (Nat.le_refl _)))
    go_roundw
    case rel=>exact⟨k+1,s++zd1++ta,by omega,by go_num,rfl,(by rw[ByteArray.size_append];omega),HN,hB2⟩
    case measure=>simp[intOf];omega
  ·have HN:Hid (s++z8z=tc):=by rw[Hid,HC.out,H.out,List.take_of_length_le (by omega)]
   have hbd:z8z.size=1:=rfl
   clear H
   go_wp2
   go_ret
   exact⟨by rw[← HN.out];rfl,hbk⟩
end Go.Proofs.YteampbddflhngaaGreat

namespace Go.Proofs.YteampbddflhngaaGreat
set_option maxRecDepth 100000
set_option maxHeartbeats 1000000
open Go.RowKit
variable {lo:Nat}
def z3l(l:zbc):Nat:=l.args.length+1
def sumW(ls:List zbc):Nat:=ls.foldr (fun l n=>z3l l+n) 0
def clW(c:zaa):Nat:=z3l c.head+sumW c.body
def prW(cs:List zaa):Nat:=cs.foldr (fun c n=>clW c+n) 0
theorem zzr:∀(r:List Tok) {ts:List ByteArray} {r2:List Tok},za6 r=some (ts,r2)->ts.length+r2.length<=r.length
 |[],_,_,h=>by simp[za6] at h
 |[x],ts,r2,h=>by
  simp only[za6] at h
  split at h <;> simp at h
  obtain⟨rfl,rfl⟩:=h;simp
 |x::y::r,ts,r2,h=>by
  simp only[za6] at h
  split at h
  ·split at h
   ·cases hq:za6 r with
    |none=>rw[hq] at h;simp at h
    |some z =>
     obtain⟨ts',r'⟩:=z
     rw[hq] at h;simp at h
     have:=zzr r hq
     obtain⟨rfl,rfl⟩:=h;simp;omega
   ·simp at h;obtain⟨rfl,rfl⟩:=h;simp;omega
  ·simp at h
theorem zxn{r r2:List Tok}{a:zbc}(h:zdq r=some (a,r2)):z3l a+r2.length<=r.length:=by
 cases r with
 |nil=>simp[zdq,hdK] at h
 |cons x r =>
  unfold zdq at h
  split at h
  ·split at h
   ·split at h
    ·simp at h
    ·rename_i ts r3 hq
     have:=zzr _ hq
     split at h <;> simp at h
     obtain⟨rfl,rfl⟩:=h;simp[z3l] at this ⊢;omega
   ·simp at h;obtain⟨rfl,rfl⟩:=h;simp[z3l];omega
  ·simp at h
theorem ycb{r r2:List Tok}{a:zbc}(h:zqj r=some (a,r2)):z3l a+r2.length<=r.length:=by
 unfold zqj at h
 split at h
 ·cases hq:zdq r.tail with
  |none=>rw[hq] at h;simp at h
  |some z =>
   obtain⟨a',r'⟩:=z
   rw[hq] at h;simp at h
   have:=zxn hq
   obtain⟨rfl,rfl⟩:=h;simp[z3l] at this ⊢;omega
 ·exact zxn h
theorem yby{n:Nat}:∀ {r r2:List Tok} {b:List zbc},zeo n r=some (b,r2)->sumW b+r2.length<=r.length:=by
 induction n with
 |zero=>intro r r2 b h;simp[zeo] at h
 |succ n ih =>
  intro r r2 b h
  cases hl:zqj r with
  |none=>rw[zt0 hl] at h;cases h
  |some z =>
   obtain⟨a,r3⟩:=z
   have:=ycb hl
   by_cases h6:hdK r3=6
   ·rw[zj2 hl h6] at h
    cases hq:zeo n r3.tail with
    |none=>rw[hq] at h;simp at h
    |some z =>
     obtain⟨b',r'⟩:=z
     rw[hq] at h;simp at h
     have:=ih hq
     obtain⟨rfl,rfl⟩:=h;simp[sumW] at this ⊢;omega
   ·rw[zjw hl h6] at h;simp at h;obtain⟨rfl,rfl⟩:=h;simp[sumW];omega
theorem z4j{n:Nat}{r r2:List Tok}{c:zaa}(h:zdy n r=some (c,r2)):clW c+r2.length<=r.length:=by
 unfold zdy at h
 split at h
 ·cases h
 ·rename_i a r1 ha
  have:=zxn ha
  split at h
  ·split at h
   ·cases h
   ·rename_i b r3 hb
    have:=yby hb
    split at h <;> simp at h
    obtain⟨rfl,rfl⟩:=h;simp[clW] at this ⊢;omega
  ·split at h <;> simp at h
   obtain⟨rfl,rfl⟩:=h;simp[clW,sumW];omega
theorem zx9{n0:Nat}:∀ {m:Nat} {r:List Tok} {cs:List zaa},zdp n0 m r=some cs->prW cs<=r.length
 |_,[],cs,h=>by simp[zdp] at h;subst h;simp[prW]
 |0,_::_,cs,h=>by simp[zdp] at h
 |m+1,x::r,cs,h=>by
  cases hc:zdy n0 (x::r) with
  |none=>rw[zzf (by simp) hc] at h;cases h
  |some z =>
   obtain⟨c,r2⟩:=z
   rw[zoy (by simp) hc] at h
   cases hq:zdp n0 m r2 with
   |none=>rw[hq] at h;simp at h
   |some cs' =>
    rw[hq] at h;simp at h;subst h
    have h1:=z4j hc
    have h2:=zx9 hq
    simp only[prW,List.foldr_cons,List.length_cons] at h1 h2 ⊢;omega
theorem zps(ls:List zbc):zcf ls+ls.length=sumW ls:=by
 induction ls with
 |nil=>rfl
 |cons a ls ih=>simp[zcf,sumW,z3l] at ih ⊢;omega
theorem ya6{cs:List zaa}{c:zaa}(h:c∈cs):clW c<=prW cs:=by
 induction cs with
 |nil=>cases h
 |cons a cs ih =>
  rcases List.mem_cons.1 h with rfl|h
  ·simp[prW]
  ·have:=ih h;simp[prW] at this ⊢;omega
theorem zza(cs:List zaa):(cs.flatMap za2).length<=prW cs:=by
 induction cs with
 |nil=>simp
 |cons a cs ih=>have:=zps a.body;simp[prW,clW,za2,z3l] at ih ⊢;omega
theorem z5m(cs:List zaa):cs.length<=prW cs:=by
 induction cs with
 |nil=>simp
 |cons a cs ih=>simp[prW,clW,z3l] at ih ⊢;omega
theorem yax{cs:List zaa}(h:prW cs<=1000):∀ c∈cs,zqi c:=fun c hc=>by
 have h1:=ya6 hc
 have h2:=zps c.body
 unfold clW z3l at h1
 exact⟨by omega,by omega⟩
theorem zmz:∀(n:Nat) (s:ByteArray) (i:Nat) (l:List (Int × ByteArray)),splitN n s i=some l->l.length<=s.size - i
 |0,_,_,l,h=>by simp[splitN] at h;subst h;simp
 |n+1,s,i,l,h=>by
  unfold splitN at h
  split at h
  ·rename_i hi
   split at h
   ·have:=zmz n s (i+1) l h;omega
   ·split at h
    ·cases h
    ·rename_i hk
     split at h
     ·cases h
     ·cases hq:splitN n s (zno s i (zcl (bAt s i) (bAt s (i+1)))) with
      |none=>rw[hq] at h;simp at h
      |some l' =>
       rw[hq] at h;simp at h;subst h
       have:=zmz n s _ l' hq
       have:=z7o s i _ hi rfl hk
       simp;omega
  ·simp at h;subst h;simp
theorem zrj{s:ByteArray}{l:List Tok}(h:splitB s=some l):l.length<=s.size:=by have:=zmz _ s 0 l h;omega
def zia(s:ByteArray):Except Int (List zaa × List zaq) :=
 if 500 < s.size then .error 1 else
 match splitB s with
 |none=>.error 2
 |some l =>
  match zdp l.length l.length l with
  |none=>.error 3
  |some cs =>
   if cs.any zec then .error 4 else
   match zgy cs with
   |none=>.error 5
   |some t =>
    if cs.all zff then
     if (zdb (t.length+1) t cs).2 then .ok (cs,(zdb (t.length+1) t cs).1) else .error 7
    else .error 6
def zgt(o:Except Int (List zaa × List zaq))(w:World)(e:Ending)(w':World):Prop :=
 Below w.heap.size w w'/\match o with
  |.error n=>e=.returned (.tuple #[.pointer none,.int .i64 n])
  |.ok (cs,t)=>∃ pb v pv,e=.returned (.tuple #[.pointer (some ⟨pb,0,none⟩),.int .i64 0])/\Box w' pb #[v,pv] 131/\CIn w.heap.size 171 w' v cs/\w'.ownsRow w.heap.size 221 3 pv t.length (zce t)/\w.heap.size<=pb
theorem z9z(s:ByteArray)(w:World)(hs:s.size<=500)(h:splitB s=none):Calls Tryz.prog 59 #[.string s] w fun e w'=>e=.returned (.tuple #[.slice none 0 0,.bool false])/\Below w.heap.size w w':=by
 refine(zuv s w hs).mono ?_
 rintro e w' ⟨h1,h2⟩
 rw[h] at h2
 exact⟨h2,h1⟩
theorem zh3(s:ByteArray)(w:World)(l:List Tok)(hs:s.size<=500)(h:splitB s=some l):Calls Tryz.prog 59 #[.string s] w fun e w'=>∃ v,e=.returned (.tuple #[v,.bool true])/\w'.ownsRow w.heap.size 182 2 v l.length (zgr l)/\l.length<=500/\Below w.heap.size w w':=by
 refine(zuv s w hs).mono ?_
 rintro e w' ⟨h1,h2⟩
 rw[h] at h2
 obtain⟨v,a,b,c⟩:=h2
 exact⟨v,a,b,by omega,h1⟩
theorem yap(w:World)(wv:Value)(l:List Tok)(base:Nat)(hw:w.ownsRow base 182 2 wv l.length (zgr l))(hl:l.length<=500)(h:zdp l.length l.length l=none) :
  Calls Tryz.prog 60 #[wv] w fun e w'=>e=.returned (.tuple #[.slice none 0 0,.bool false])/\Below w.heap.size w w':=by
 refine(parse_any w wv l base hw hl).mono ?_
 rintro e w' ⟨h1,h2⟩
 rw[h] at h2
 exact⟨h2,h1⟩
theorem zjf(w:World)(wv:Value)(l:List Tok)(base:Nat)(cs:List zaa)(hw:w.ownsRow base 182 2 wv l.length (zgr l))(hl:l.length<=500)(h:zdp l.length l.length l=some cs) :
  Calls Tryz.prog 60 #[wv] w fun e w'=>∃ v,e=.returned (.tuple #[v,.bool true])/\CIn w.heap.size 171 w' v cs/\Below w.heap.size w w':=by
 refine(parse_any w wv l base hw hl).mono ?_
 rintro e w' ⟨h1,h2⟩
 rw[h] at h2
 obtain⟨v,a,b⟩:=h2
 exact⟨v,a,b,h1⟩
theorem z02(w:World)(v:Value)(cs:List zaa)(hcs:CIn lo 171 w v cs)(hN:(cs.flatMap za2).length<=1000)(h:zgy cs=none) :
  Calls Tryz.prog 62 #[v] w fun e w'=>e=.returned (.tuple #[.agg #[.slice none 0 0],.bool false])/\Below w.heap.size w w':=by
 refine(zpu w v cs hcs hN).mono ?_
 rintro e w' ⟨h1,h2⟩
 rw[h] at h2
 exact⟨h2,h1⟩
theorem zks(w:World)(v:Value)(cs:List zaa)(t:List zaq)(hcs:CIn lo 171 w v cs)(hN:(cs.flatMap za2).length<=1000)(h:zgy cs=some t) :
  Calls Tryz.prog 62 #[v] w fun e w'=>∃ pv,e=.returned (.tuple #[.agg #[pv],.bool true])/\w'.ownsRow w.heap.size 221 3 pv t.length (zce t)/\Below w.heap.size w w':=by
 refine(zpu w v cs hcs hN).mono ?_
 rintro e w' ⟨h1,h2⟩
 rw[h] at h2
 obtain⟨v,a,b⟩:=h2
 exact⟨v,a,b,h1⟩
theorem zwh(s:ByteArray)(w:World)(hs:500 < s.size)(hs2:s.size<=9223372036854775807) :
  Calls Tryz.prog 32 #[.string s] w fun e w'=>zgt (.error 1) w e w':=by
 go_enter Tryz.func32,Tryz.ntmps32
 go_wp2
 go_ret2
 exact⟨Below.refl _ _,rfl⟩
theorem z5e(s:ByteArray)(w:World)(hs:s.size<=500)(hS:splitB s=none) :
  Calls Tryz.prog 32 #[.string s] w fun e w'=>zgt (.error 2) w e w':=by
 have HS:Hid (splitB s=none):=hS
 clear hS
 go_enter Tryz.func32,Tryz.ntmps32
 go_wp2_with (first|(go_at_call 59;refine(z9z s _ hs HS).mono ?_;rintro e w1 ⟨rfl,hb1⟩))
 go_ret2
 exact⟨hb1,rfl⟩
theorem z4l(s:ByteArray)(w:World)(hs:s.size<=500)(l:List Tok)(hS:splitB s=some l)(hP:zdp l.length l.length l=none) :
  Calls Tryz.prog 32 #[.string s] w fun e w'=>zgt (.error 3) w e w':=by
 have HS:Hid (splitB s=some l):=hS
 have HP:Hid (zdp l.length l.length l=none):=hP
 clear hS hP
 go_enter Tryz.func32,Tryz.ntmps32
 go_wp2_with (first|(go_at_call 59;refine(zh3 s _ l hs HS).mono ?_;rintro e w1 ⟨fv,rfl,hown,hll,hb1⟩;obtain⟨aof,capf,rfl⟩:=zac hown)|(go_at_call 60;refine(yap _ _ l _ hown hll HP).mono ?_;rintro e w2 ⟨rfl,hb2⟩;have hB2:=zad hb1 hb2 (Nat.le_refl _)))
 go_ret2
 exact⟨hB2,rfl⟩
theorem z5q(s:ByteArray)(w:World)(hs:s.size<=500)(l:List Tok)(cs:List zaa)(hm:cs.any zec=true)(hS:splitB s=some l)(hP:zdp l.length l.length l=some cs)(hok:∀ c∈cs,zqi c)(hlen:cs.length<=1000) :
  Calls Tryz.prog 32 #[.string s] w fun e w'=>zgt (.error 4) w e w':=by
 have HS:Hid (splitB s=some l):=hS
 have HP:Hid (zdp l.length l.length l=some cs):=hP
 have HOK:Hid (∀ c∈cs,zqi c):=hok
 have HLEN:Hid (cs.length<=1000):=hlen
 clear hS hP hok hlen
 go_enter Tryz.func32,Tryz.ntmps32
 go_wp2_with (first|(go_at_call 59;refine(zh3 s _ l hs HS).mono ?_;rintro e w1 ⟨fv,rfl,hown,hll,hb1⟩;obtain⟨aof,capf,rfl⟩:=zac hown)|(go_at_call 60;refine(zjf _ _ l _ cs hown hll HP).mono ?_;rintro e w2 ⟨cv,rfl,hcin,hb2⟩;obtain⟨aoc,capc,rfl⟩:=hcin.shape;have hB2:=zad hb1 hb2 (Nat.le_refl _))|(go_at_call 61;refine(zln _ _ cs hcin HOK.out HLEN.out).mono ?_;rintro e w3 ⟨rfl,hb3⟩;have hB3:=zad hB2 hb3 (Nat.le_refl _);have hcin3:=hcin.below hb3))
 go_ret2
 exact⟨hB3,rfl⟩
theorem z8l(s:ByteArray)(w:World)(hs:s.size<=500)(l:List Tok)(cs:List zaa)(hm:cs.any zec=false)(hS:splitB s=some l)(hP:zdp l.length l.length l=some cs)(hok:∀ c∈cs,zqi c)(hlen:cs.length<=1000)(hlits:(cs.flatMap za2).length<=1000)(hC:zgy cs=none) :
  Calls Tryz.prog 32 #[.string s] w fun e w'=>zgt (.error 5) w e w':=by
 have HS:Hid (splitB s=some l):=hS
 have HP:Hid (zdp l.length l.length l=some cs):=hP
 have HOK:Hid (∀ c∈cs,zqi c):=hok
 have HLEN:Hid (cs.length<=1000):=hlen
 have HLITS:Hid ((cs.flatMap za2).length<=1000):=hlits
 have HC:Hid (zgy cs=none):=hC
 clear hS hP hok hlen hlits hC
 go_enter Tryz.func32,Tryz.ntmps32
 go_wp2_with (first|(go_at_call 59;refine(zh3 s _ l hs HS).mono ?_;rintro e w1 ⟨fv,rfl,hown,hll,hb1⟩;obtain⟨aof,capf,rfl⟩:=zac hown)|(go_at_call 60;refine(zjf _ _ l _ cs hown hll HP).mono ?_;rintro e w2 ⟨cv,rfl,hcin,hb2⟩;obtain⟨aoc,capc,rfl⟩:=hcin.shape;have hB2:=zad hb1 hb2 (Nat.le_refl _))|(go_at_call 61;refine(zln _ _ cs hcin HOK.out HLEN.out).mono ?_;rintro e w3 ⟨rfl,hb3⟩;have hB3:=zad hB2 hb3 (Nat.le_refl _);have hcin3:=hcin.below hb3)|(go_at_call 62;refine(z02 _ _ cs hcin3 HLITS.out HC).mono ?_;rintro e w4 ⟨rfl,hb4⟩;have hB4:=zad hB3 hb4 (Nat.le_refl _);have hz4:=hB4.size))
 go_ret2
 exact⟨(by repeat'(first|with_reducible(first|exact zR _ _|assumption|refine zN ?_ _|refine zA ?_ ?_ _|refine zD ?_|refine zS ?_ ?_ _)|go_size)),rfl⟩
theorem z4a(s:ByteArray)(w:World)(hs:s.size<=500)(l:List Tok)(cs:List zaa)(t:List zaq)(hm:cs.any zec=false)(hsf:cs.all zff=false)(hS:splitB s=some l)(hP:zdp l.length l.length l=some cs)(hok:∀ c∈cs,zqi c)(hlen:cs.length<=1000)(hlits:(cs.flatMap za2).length<=1000)(hC:zgy cs=some t) :
  Calls Tryz.prog 32 #[.string s] w fun e w'=>zgt (.error 6) w e w':=by
 have HS:Hid (splitB s=some l):=hS
 have HP:Hid (zdp l.length l.length l=some cs):=hP
 have HOK:Hid (∀ c∈cs,zqi c):=hok
 have HLEN:Hid (cs.length<=1000):=hlen
 have HLITS:Hid ((cs.flatMap za2).length<=1000):=hlits
 have HC:Hid (zgy cs=some t):=hC
 clear hS hP hok hlen hlits hC
 go_enter Tryz.func32,Tryz.ntmps32
 go_wp2_with (first|(go_at_call 59;refine(zh3 s _ l hs HS).mono ?_;rintro e w1 ⟨fv,rfl,hown,hll,hb1⟩;obtain⟨aof,capf,rfl⟩:=zac hown)|(go_at_call 60;refine(zjf _ _ l _ cs hown hll HP).mono ?_;rintro e w2 ⟨cv,rfl,hcin,hb2⟩;obtain⟨aoc,capc,rfl⟩:=hcin.shape;have hB2:=zad hb1 hb2 (Nat.le_refl _))|(go_at_call 61;refine(zln _ _ cs hcin HOK.out HLEN.out).mono ?_;rintro e w3 ⟨rfl,hb3⟩;have hB3:=zad hB2 hb3 (Nat.le_refl _);have hcin3:=hcin.below hb3)|(go_at_call 62;refine(zks _ _ cs t hcin3 HLITS.out HC).mono ?_;rintro e w4 ⟨pv,rfl,hpo,hb4⟩;obtain⟨aop,capp,rfl⟩:=zac hpo;have hB4:=zad hB3 hb4 (Nat.le_refl _);have hz4:=hB4.size;have hcin4:=hcin3.below hb4)|(go_at_call 63;refine(ztr _ _ cs (by exact hcin4.below (by repeat'(first|with_reducible(first|exact zR _ _|assumption|refine zN ?_ _|refine zA ?_ ?_ _|refine zD ?_|refine zS ?_ ?_ _)|go_size))) HOK.out HLEN.out).mono ?_;rintro e w5 ⟨rfl,hb5⟩;have hq5:=(Below.refl w4.heap.size w4).alloc (Nat.le_refl _) (.cells #[.slice aop t.length capp] 127);have hbb5:=zad hq5 hb5 (Nat.le_refl _);have hB5:=zad hB4 hbb5 (Nat.le_refl _)))
 go_ret2
 exact⟨hB5,rfl⟩
theorem z4f(s:ByteArray)(w:World)(hs:s.size<=500)(l:List Tok)(cs:List zaa)(t:List zaq)(hm:cs.any zec=false)(hsf:cs.all zff=true)(hst:(zdb (t.length+1) t cs).2=false)(hS:splitB s=some l)(hP:zdp l.length l.length l=some cs)(hok:∀ c∈cs,zqi c)(hlen:cs.length<=1000)(hlits:(cs.flatMap za2).length<=1000)(hC:zgy cs=some t)(htl:t.length<=1000)(htz:∀ e∈t,e.stratum<=0) :
  Calls Tryz.prog 32 #[.string s] w fun e w'=>zgt (.error 7) w e w':=by
 have HS:Hid (splitB s=some l):=hS
 have HP:Hid (zdp l.length l.length l=some cs):=hP
 have HOK:Hid (∀ c∈cs,zqi c):=hok
 have HLEN:Hid (cs.length<=1000):=hlen
 have HLITS:Hid ((cs.flatMap za2).length<=1000):=hlits
 have HC:Hid (zgy cs=some t):=hC
 have HTL:Hid (t.length<=1000):=htl
 have HTZ:Hid (∀ e∈t,e.stratum<=0):=htz
 clear hS hP hok hlen hlits hC htl htz
 go_enter Tryz.func32,Tryz.ntmps32
 go_wp2_with (first|(go_at_call 59;refine(zh3 s _ l hs HS).mono ?_;rintro e w1 ⟨fv,rfl,hown,hll,hb1⟩;obtain⟨aof,capf,rfl⟩:=zac hown)|(go_at_call 60;refine(zjf _ _ l _ cs hown hll HP).mono ?_;rintro e w2 ⟨cv,rfl,hcin,hb2⟩;obtain⟨aoc,capc,rfl⟩:=hcin.shape;have hB2:=zad hb1 hb2 (Nat.le_refl _))|(go_at_call 61;refine(zln _ _ cs hcin HOK.out HLEN.out).mono ?_;rintro e w3 ⟨rfl,hb3⟩;have hB3:=zad hB2 hb3 (Nat.le_refl _);have hcin3:=hcin.below hb3)|(go_at_call 62;refine(zks _ _ cs t hcin3 HLITS.out HC).mono ?_;rintro e w4 ⟨pv,rfl,hpo,hb4⟩;obtain⟨aop,capp,rfl⟩:=zac hpo;have hB4:=zad hB3 hb4 (Nat.le_refl _);have hz4:=hB4.size;have hcin4:=hcin3.below hb4)|(go_at_call 63;refine(ztr _ _ cs (by exact hcin4.below (by repeat'(first|with_reducible(first|exact zR _ _|assumption|refine zN ?_ _|refine zA ?_ ?_ _|refine zD ?_|refine zS ?_ ?_ _)|go_size))) HOK.out HLEN.out).mono ?_;rintro e w5 ⟨rfl,hb5⟩;have hq5:=(Below.refl w4.heap.size w4).alloc (Nat.le_refl _) (.cells #[.slice aop t.length capp] 127);have hbb5:=zad hq5 hb5 (Nat.le_refl _);have hB5:=zad hB4 hbb5 (Nat.le_refl _))|(go_at_call 64;refine(znk w3.heap.size _ w4.heap.size t _ cs w3 rfl (zad hb4 hbb5 (Nat.le_refl _)) hcin3 HOK.out HLEN.out ⟨_,(Box.new w4 _ _).below hb5,zab hpo hbb5⟩ HTL.out HTZ.out).mono ?_;rintro e w6 ⟨rfl,hta6,hb6⟩;obtain⟨ao6,cap6,hbx6,hown6⟩:=hta6.view;obtain⟨hc6,hf6⟩:=hbx6.rules;have hB6:Below w.heap.size w w6:=hB5.trans (hb6.mono (Nat.le_trans hB3.size (Nat.le_refl _)));have hz6:=hbx6.lt))
 go_ret2
 exact⟨hB6,rfl⟩
theorem z7l(s:ByteArray)(w:World)(hs:s.size<=500)(l:List Tok)(cs:List zaa)(t:List zaq)(hm:cs.any zec=false)(hsf:cs.all zff=true)(hst:(zdb (t.length+1) t cs).2=true)(hS:splitB s=some l)(hP:zdp l.length l.length l=some cs)(hok:∀ c∈cs,zqi c)(hlen:cs.length<=1000)(hlits:(cs.flatMap za2).length<=1000)(hC:zgy cs=some t)(htl:t.length<=1000)(htz:∀ e∈t,e.stratum<=0) :
  Calls Tryz.prog 32 #[.string s] w fun e w'=>zgt (.ok (cs,(zdb (t.length+1) t cs).1)) w e w':=by
 have HS:Hid (splitB s=some l):=hS
 have HP:Hid (zdp l.length l.length l=some cs):=hP
 have HOK:Hid (∀ c∈cs,zqi c):=hok
 have HLEN:Hid (cs.length<=1000):=hlen
 have HLITS:Hid ((cs.flatMap za2).length<=1000):=hlits
 have HC:Hid (zgy cs=some t):=hC
 have HTL:Hid (t.length<=1000):=htl
 have HTZ:Hid (∀ e∈t,e.stratum<=0):=htz
 clear hS hP hok hlen hlits hC htl htz
 go_enter Tryz.func32,Tryz.ntmps32
 go_wp2_with (first|(go_at_call 59;refine(zh3 s _ l hs HS).mono ?_;rintro e w1 ⟨fv,rfl,hown,hll,hb1⟩;obtain⟨aof,capf,rfl⟩:=zac hown)|(go_at_call 60;refine(zjf _ _ l _ cs hown hll HP).mono ?_;rintro e w2 ⟨cv,rfl,hcin,hb2⟩;obtain⟨aoc,capc,rfl⟩:=hcin.shape;have hB2:=zad hb1 hb2 (Nat.le_refl _))|(go_at_call 61;refine(zln _ _ cs hcin HOK.out HLEN.out).mono ?_;rintro e w3 ⟨rfl,hb3⟩;have hB3:=zad hB2 hb3 (Nat.le_refl _);have hcin3:=hcin.below hb3)|(go_at_call 62;refine(zks _ _ cs t hcin3 HLITS.out HC).mono ?_;rintro e w4 ⟨pv,rfl,hpo,hb4⟩;obtain⟨aop,capp,rfl⟩:=zac hpo;have hB4:=zad hB3 hb4 (Nat.le_refl _);have hz4:=hB4.size;have hcin4:=hcin3.below hb4)|(go_at_call 63;refine(ztr _ _ cs (by exact hcin4.below (by repeat'(first|with_reducible(first|exact zR _ _|assumption|refine zN ?_ _|refine zA ?_ ?_ _|refine zD ?_|refine zS ?_ ?_ _)|go_size))) HOK.out HLEN.out).mono ?_;rintro e w5 ⟨rfl,hb5⟩;have hq5:=(Below.refl w4.heap.size w4).alloc (Nat.le_refl _) (.cells #[.slice aop t.length capp] 127);have hbb5:=zad hq5 hb5 (Nat.le_refl _);have hB5:=zad hB4 hbb5 (Nat.le_refl _))|(go_at_call 64;refine(znk w3.heap.size _ w4.heap.size t _ cs w3 rfl (zad hb4 hbb5 (Nat.le_refl _)) hcin3 HOK.out HLEN.out ⟨_,(Box.new w4 _ _).below hb5,zab hpo hbb5⟩ HTL.out HTZ.out).mono ?_;rintro e w6 ⟨rfl,hta6,hb6⟩;obtain⟨ao6,cap6,hbx6,hown6⟩:=hta6.view;obtain⟨hc6,hf6⟩:=hbx6.rules;have hB6:Below w.heap.size w w6:=hB5.trans (hb6.mono (Nat.le_trans hB3.size (Nat.le_refl _)));have hz6:=hbx6.lt))
 have hz66:=hB6.size
 have hcin6:=hcin3.below ((zad hb4 hbb5 (Nat.le_refl _)).trans hb6)
 go_ret2
 exact⟨(by repeat'(first|with_reducible(first|exact zR _ _|assumption|refine zN ?_ _|refine zA ?_ ?_ _|refine zD ?_|refine zS ?_ ?_ _)|go_size)),w6.heap.size,_,_,rfl,Box.new _ _ _,(hcin6.low hb1.size).below ((Below.refl _ _).alloc (Nat.le_refl _) _),zbf (zab hown6 ((Below.refl _ _).alloc (Nat.le_refl _) _)) hB3.size,hz66⟩
theorem zg1(s:ByteArray)(w:World)(hs2:s.size<=9223372036854775807) :
  Calls Tryz.prog 32 #[.string s] w fun e w'=>zgt (zia s) w e w':=by
 unfold zia
 split
 ·rename_i hs;exact zwh s w hs hs2
 ·rename_i hs
  have hs':s.size<=500:=by omega
  split
  ·rename_i hS;exact z5e s w hs' hS
  ·rename_i l hS
   split
   ·rename_i hP;exact z4l s w hs' l hS hP
   ·rename_i cs hP
    have hl:l.length<=500:=by
     have:=zrj hS;omega
    have hw:=zx9 hP
    have hok:=yax (cs:=cs) (by omega)
    have hlen:cs.length<=1000:=by have:=z5m cs;omega
    have hlits:(cs.flatMap za2).length<=1000:=by have:=zza cs;omega
    split
    ·rename_i hm;exact z5q s w hs' l cs hm hS hP hok hlen
    ·rename_i hm
     have hm':cs.any zec=false:=by simpa using hm
     split
     ·rename_i hC;exact z8l s w hs' l cs hm' hS hP hok hlen hlits hC
     ·rename_i t hC
      have htl:t.length<=1000:=by have:=zs7 _ _ _ hC;simp only[List.length_nil] at this;omega
      have htz:∀ e∈t,e.stratum<=0:=zov _ [] (by simp) t hC
      split
      ·rename_i hsf
       split
       ·rename_i hst;exact z7l s w hs' l cs t hm' hsf hst hS hP hok hlen hlits hC htl htz
       ·rename_i hst;exact z4f s w hs' l cs t hm' hsf (by simpa using hst) hS hP hok hlen hlits hC htl htz
      ·rename_i hsf;exact z4a s w hs' l cs t hm' (by simpa using hsf) hS hP hok hlen hlits hC
end Go.Proofs.YteampbddflhngaaGreat

namespace Go.Proofs.YteampbddflhngaaGreat
open Go.RowKit
variable {lo:Nat}
def TP(B:Nat)(w:World)(tb:Nat)(t:List zaq):Prop:=∃ cv pv,Box w tb #[cv,pv] 131/\w.ownsRow B 221 3 pv t.length (zce t)
theorem TP.view{B:Nat}{w:World}{tb:Nat}{t:List zaq}(h:TP B w tb t):∃ cv ao cap,Box w tb #[cv,.slice ao t.length cap] 131/\w.ownsRow B 221 3 (.slice ao t.length cap) t.length (zce t):=by
 obtain⟨cv,nv,h1,h2⟩:=h
 obtain⟨ao,cap,rfl⟩:=zac h2
 exact⟨cv,ao,cap,h1,h2⟩
end Go.Proofs.YteampbddflhngaaGreat
