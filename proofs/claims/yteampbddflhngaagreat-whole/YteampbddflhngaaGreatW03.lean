import Derived.Test.YteampbddflhngaaGreatW02

namespace Go.Proofs.YteampbddflhngaaGreat
set_option maxRecDepth 100000
set_option maxHeartbeats 1000000
open Go.RowKit
variable {lo:Nat}
theorem zsr(w:World)(r:Nat)(wv:Value)(l rest:List Tok)(h:Rd w r wv l rest)(hl:l.length<=500)(hp:zeh rest=none) :
  Calls Tryz.prog 142 #[.pointer (some ⟨r,0,none⟩)] w fun e w'=>e=.returned (.tuple #[.agg #[.bool false,.string ByteArray.empty,.slice none 0 0],.bool false])/\But r w w':=by
 refine(zxh w r wv l rest h hl).mono ?_
 rintro e w' ⟨h1,h2⟩
 rw[hp] at h2
 exact⟨h2,h1⟩
theorem zhr(w:World)(r:Nat)(wv:Value)(l rest r2:List Tok)(a:zbu)(h:Rd w r wv l rest)(hl:l.length<=500)(hp:zeh rest=some (a,r2)) :
  Calls Tryz.prog 142 #[.pointer (some ⟨r,0,none⟩)] w fun e w'=>∃ va,e=.returned (.tuple #[.agg #[.bool a.neg,.string a.pred,va],.bool true])/\SIn w.heap.size w' va a.args/\Rd w' r wv l r2/\But r w w':=by
 refine(zxh w r wv l rest h hl).mono ?_
 rintro e w' ⟨h1,h2⟩
 rw[hp] at h2
 obtain⟨v,a,b,c⟩:=h2
 exact⟨v,a,b,c,h1⟩
theorem zqe(b:Bool)(w:World)(r:Nat)(wv:Value)(l rest rest1:List Tok)(h:Rd w r wv l rest)(hl:l.length<=500)
  (htk:∀ W,Rd W r wv l rest->Calls Tryz.prog 143 #[.pointer (some ⟨r,0,none⟩),.int .i64 8] W fun e w'=>e=.returned (.bool b)/\Rd w' r wv l rest1/\But r W w') (ha:zeh rest1=none) :
  Calls Tryz.prog 181 #[.pointer (some ⟨r,0,none⟩)] w fun e w'=>zgj none w r wv l e w':=by
 have hlt:=h.lt
 have hne:w.heap.size≠r:=by omega
 have HTK:Hid (∀ W,Rd W r wv l rest->Calls Tryz.prog 143 #[.pointer (some ⟨r,0,none⟩),.int .i64 8] W fun e w'=>e=.returned (.bool b)/\Rd w' r wv l rest1/\But r W w'):=htk
 clear htk
 have HA:Hid (zeh rest1=none):=ha
 clear ha
 go_enter Tryz.func181,Tryz.ntmps181
 go_wp2_with (first|(go_at_call 143;refine(Hid.out HTK _ (by exact h.below (by go_grown))).mono ?_;rintro e w1 ⟨rfl,hr1,hbut1⟩;have hx1:=(Box.new w _ _).but hbut1 hne;have hz1:=hx1.lt;have hlt1:=hr1.lt;have hB1:=((But.refl r w).alloc _).trans hbut1)|(go_at_call 142;refine(zsr _ r wv l rest1 hr1 hl HA).mono ?_;rintro e w2 ⟨rfl,hbut2⟩;have hx2:=hx1.but hbut2 hne;obtain⟨hc2,hf2⟩:=hx2.rules;have hz2:=hx2.lt;have hB2:=hB1.trans hbut2))
 exact bodyPost_ret (v:=.tuple #[.agg #[.bool false,.string ByteArray.empty,.slice none 0 0],.bool false]) (by simp[results,Tryz.results181,go_sem,hc2,hz2];rfl) rfl ⟨(by repeat'(first|(with_reducible exact But.refl _ _)|(with_reducible assumption)|(with_reducible refine But.drewN ?_ _)|(with_reducible refine But.alloc ?_ _)|(with_reducible refine But.drew ?_)|(with_reducible refine But.setCell ?_ _ _)|(with_reducible refine But.setNew ?_ ?_ _)|go_size)),rfl⟩
theorem zoh(b:Bool)(w:World)(r:Nat)(wv:Value)(l rest rest1 r2:List Tok)(a:zbu)(h:Rd w r wv l rest)(hl:l.length<=500)
  (htk:∀ W,Rd W r wv l rest->Calls Tryz.prog 143 #[.pointer (some ⟨r,0,none⟩),.int .i64 8] W fun e w'=>e=.returned (.bool b)/\Rd w' r wv l rest1/\But r W w') (ha:zeh rest1=some (a,r2)) :
  Calls Tryz.prog 181 #[.pointer (some ⟨r,0,none⟩)] w fun e w'=>zgj (some ({ a with neg:=b },r2)) w r wv l e w':=by
 have hlt:=h.lt
 have hne:w.heap.size≠r:=by omega
 have HTK:Hid (∀ W,Rd W r wv l rest->Calls Tryz.prog 143 #[.pointer (some ⟨r,0,none⟩),.int .i64 8] W fun e w'=>e=.returned (.bool b)/\Rd w' r wv l rest1/\But r W w'):=htk
 clear htk
 have HA:Hid (zeh rest1=some (a,r2)):=ha
 clear ha
 go_enter Tryz.func181,Tryz.ntmps181
 go_wp2_with (first|(go_at_call 143;refine(Hid.out HTK _ (by exact h.below (by go_grown))).mono ?_;rintro e w1 ⟨rfl,hr1,hbut1⟩;have hx1:=(Box.new w _ _).but hbut1 hne;have hz1:=hx1.lt;have hlt1:=hr1.lt;have hB1:=((But.refl r w).alloc _).trans hbut1)|(go_at_call 142;refine(zhr _ r wv l rest1 r2 a hr1 hl HA).mono ?_;rintro e w2 ⟨va,rfl,hsin,hr2,hbut2⟩;obtain⟨ao,cp,rfl⟩:=hsin.shape;have hx2:=hx1.but hbut2 hne;obtain⟨hc2,hf2⟩:=hx2.rules;have hz2:=hx2.lt;have hB2:=hB1.trans hbut2))
 exact bodyPost_ret (v:=.tuple #[.agg #[.bool b,.string a.pred,.slice ao a.args.length cp],.bool true]) (by simp[results,Tryz.results181,go_sem,hc2,hz2]) rfl ⟨(by repeat'(first|(with_reducible exact But.refl _ _)|(with_reducible assumption)|(with_reducible refine But.drewN ?_ _)|(with_reducible refine But.alloc ?_ _)|(with_reducible refine But.drew ?_)|(with_reducible refine But.setCell ?_ _ _)|(with_reducible refine But.setNew ?_ ?_ _)|go_size)),_,rfl,(hsin.low hB1.size).but (r:=w.heap.size) (by repeat'(first|(with_reducible exact But.refl _ _)|(with_reducible assumption)|(with_reducible refine But.drewN ?_ _)|(with_reducible refine But.alloc ?_ _)|(with_reducible refine But.drew ?_)|(with_reducible refine But.setCell ?_ _ _)|(with_reducible refine But.setNew ?_ ?_ _)|go_size)) hx2 (by decide),h.keep hr2 (by go_grown)⟩
theorem z3l{rest r2:List Tok}{a:zbu}(h:zeh rest=some (a,r2)):a.neg=false:=by
 unfold zeh at h
 (repeat' split at h) <;> first|(cases h;done)|(simp at h;obtain⟨rfl,_⟩:=h;rfl)
theorem zog(w:World)(r:Nat)(wv:Value)(l rest:List Tok)(h:Rd w r wv l rest)(hl:l.length<=500) :
  Calls Tryz.prog 181 #[.pointer (some ⟨r,0,none⟩)] w fun e w'=>zgj (zsf rest) w r wv l e w':=by
 unfold zsf
 split
 ·rename_i h8
  cases ha:zeh rest.tail with
  |none=>exact zqe true w r wv l rest rest.tail h hl (fun W hW=>zdw W r wv l rest 8 hW hl (by decide) h8) ha
  |some z=>obtain⟨a,r2⟩:=z;exact zoh true w r wv l rest rest.tail r2 a h hl (fun W hW=>zdw W r wv l rest 8 hW hl (by decide) h8) ha
 ·rename_i h8
  cases ha:zeh rest with
  |none=>exact zqe false w r wv l rest rest h hl (fun W hW=>zjb W r wv l rest 8 hW hl (by decide) h8) ha
  |some z =>
   obtain⟨a,r2⟩:=z
   have:=zoh false w r wv l rest rest r2 a h hl (fun W hW=>zjb W r wv l rest 8 hW hl (by decide) h8) ha
   rwa [show({ a with neg:=false }:zbu)=a by rw[← z3l ha]] at this
end Go.Proofs.YteampbddflhngaaGreat
namespace Go.Proofs.YteampbddflhngaaGreat
set_option maxRecDepth 100000
set_option maxHeartbeats 1000000
open Go.RowKit
variable {lo:Nat}
variable {v:Value}{n:Nat}{w:World}{r r2:List Tok}{a:zbu}{o:Option (List zbu × List Tok)}
theorem zjg{wO w2:World}{b b2:Nat}{e e2:TypeId}{s s2:Nat}{v2:Value}{n2:Nat}{xs xs2:List Value}(hv:wO.ownsRow b e s v n xs)(hne:e≠e2)(h:wO.ownsRow b2 e2 s2 v2 n2 xs2)
  (hk:∀ k,k < wO.heap.size->some k≠v.ownBlock->w2.heap[k]?=wO.heap[k]?):w2.ownsRow b2 e2 s2 v2 n2 xs2:=by
 obtain⟨h1,h2⟩:=h
 refine⟨h1,?_⟩
 rcases h2 with h2|⟨g,cap,cur,hv2,hg,hh,rr⟩
 ·exact Or.inl h2
 ·refine Or.inr ⟨g,cap,cur,hv2,hg,?_,rr⟩
  rw[hk g (uaz.1 hh).1 ?_]
  ·exact hh
  ·intro he
   obtain⟨_,⟨hv0,_⟩|⟨g',cap',cur',hv',_,hh',_⟩⟩:=hv
   ·subst hv0;cases he
   ·subst hv';simp only[Value.ownBlock,uab] at he;subst he;rw[hh] at hh';simp at hh';exact hne hh'.2.symm
def zcp(lo:Nat)(w:World):List zbu->List Value->Prop
 |[],xs=>xs=[]
 |a::ls,xs=>∃ va r,xs=.bool a.neg::.string a.pred::va::r/\SIn lo w va a.args/\zcp lo w ls r
theorem zcp.snoc{w:World}{a:zbu}{va:Value}(hs:SIn lo w va a.args):∀ {ls:List zbu} {xs:List Value},zcp lo w ls xs->zcp lo w (ls++[a]) (xs++[.bool a.neg,.string a.pred,va])
 |[],_,h=>by simp only[zcp] at h;subst h;exact⟨va,[],rfl,hs,rfl⟩
 |_::ls,_,h=>by obtain⟨v,r,rfl,h1,h2⟩:=h;exact⟨v,r++[.bool a.neg,.string a.pred,va],rfl,h1,zcp.snoc hs h2⟩
theorem zcp.mono{w w':World}(hm:∀ va l,SIn lo w va l->SIn lo w' va l):∀ {ls:List zbu} {xs:List Value},zcp lo w ls xs->zcp lo w' ls xs
 |[],_,h=>h
 |_::ls,_,h=>by obtain⟨v,r,rfl,h1,h2⟩:=h;exact⟨v,r,rfl,hm _ _ h1,zcp.mono hm h2⟩
theorem zcp.at{w:World}:∀ {ls:List zbu} {xs:List Value} (i:Nat) (a:zbu),zcp lo w ls xs->ls[i]?=some a->∃ va,xs[i * 3]?=some (.bool a.neg)/\xs[i * 3+1]?=some (.string a.pred)/\xs[i * 3+2]?=some va/\SIn lo w va a.args
 |[],_,i,a,_,hi=>by simp at hi
 |_::ls,_,0,a,h,hi=>by obtain⟨v,r,rfl,h1,h2⟩:=h;simp at hi;subst hi;exact⟨v,rfl,rfl,rfl,h1⟩
 |_::ls,_,i+1,a,h,hi=>by
  obtain⟨v,r,rfl,h1,h2⟩:=h
  obtain⟨va,a1,a2,a3,a4⟩:=zcp.at i a h2 (by simpa using hi)
  refine⟨va,?_,?_,?_,a4⟩
  ·rw[show(i+1) * 3=i * 3+1+1+1 from by omega];simpa using a1
  ·rw[show(i+1) * 3+1=i * 3+1+1+1+1 from by omega];simpa using a2
  ·rw[show(i+1) * 3+2=i * 3+2+1+1+1 from by omega];simpa using a3
def LIn(lo:Nat)(w:World)(v:Value)(ls:List zbu):Prop:=∃ xs,w.ownsRow lo 90 3 v ls.length xs/\zcp lo w ls xs
theorem zcp.low{a b:Nat}{w:World}(hab:a<=b):∀ {ls:List zbu} {xs:List Value},zcp b w ls xs->zcp a w ls xs
 |[],_,h=>h
 |_::ls,_,h=>by obtain⟨v,r,rfl,h1,h2⟩:=h;exact⟨v,r,rfl,h1.low hab,zcp.low hab h2⟩
theorem LIn.low{a b:Nat}{w:World}{v:Value}{l:List zbu}(h:LIn b w v l)(hab:a<=b):LIn a w v l:=by obtain⟨xs,h,hc⟩:=h;exact⟨xs,zbf h hab,hc.low hab⟩
theorem LIn.nil(w:World):LIn lo w (.slice none 0 0) []:=⟨[],World.ownsRow_nil _ _ _ _,rfl⟩
theorem LIn.shape{l:List zbu}(h:LIn lo w v l):∃ ao cap,v=.slice ao l.length cap:=by obtain⟨xs,h,_⟩:=h;exact zac h
theorem LIn.below{w w':World}{v:Value}{l:List zbu}(h:LIn lo w v l)(hb:Below w.heap.size w w'):LIn lo w' v l:=by
 obtain⟨xs,h,hc⟩:=h;exact⟨xs,zaa h hb,hc.mono fun _ _ k=>k.below hb⟩
theorem LIn.but{r:Nat}{w w':World}{v:Value}{l:List zbu}(h:LIn lo w v l)(hb:But r w w'){c:Array Value}{T:TypeId}{f:Nat × Nat}(hr:w.heap[r]?=some (.cells c T f))(hT:T≠9)(hT2:T≠90):LIn lo w' v l:=by
 obtain⟨xs,h,hc⟩:=h;exact⟨xs,zb9 h hb hr hT2,hc.mono fun _ _ k=>k.but hb hr hT⟩
def ze4:Nat->List Tok->Option (List zbu × List Tok)
 |0,_=>none
 |n+1,r=>match zsf r with
  |none=>none
  |some (a,r2)=>if hdK r2=6 then(ze4 n r2.tail).map fun z=>(a::z.1,z.2) else some ([a],r2)
theorem zrz(h:zsf r=none):ze4 (n+1) r=none:=by simp[ze4,h]
theorem zmd(h:zsf r=some (a,r2))(h6:hdK r2=6):ze4 (n+1) r=(ze4 n r2.tail).map fun z=>(a::z.1,z.2):=by simp[ze4,h,h6]
theorem zme(h:zsf r=some (a,r2))(h6:hdK r2≠6):ze4 (n+1) r=some ([a],r2):=by simp[ze4,h,h6]
theorem zql:∀(r:List Tok) {ts:List ByteArray} {r2:List Tok},zbv r=some (ts,r2)->r2.length < r.length
 |[],_,_,h=>by simp[zbv] at h
 |[x],ts,r2,h=>by
  simp only[zbv] at h
  split at h <;> simp at h
  obtain⟨_,rfl⟩:=h;simp
 |x::y::r,ts,r2,h=>by
  simp only[zbv] at h
  split at h
  ·split at h
   ·cases hq:zbv r with
    |none=>rw[hq] at h;simp at h
    |some z =>
     obtain⟨ts',r'⟩:=z
     rw[hq] at h;simp at h
     have:=zql r hq
     obtain⟨_,rfl⟩:=h;simp;omega
   ·simp at h;obtain⟨_,rfl⟩:=h;simp
  ·simp at h
theorem zlg(h:zeh r=some (a,r2)):r2.length < r.length:=by
 cases r with
 |nil=>simp[zeh,hdK] at h
 |cons x r =>
  unfold zeh at h
  split at h
  ·split at h
   ·split at h
    ·simp at h
    ·rename_i ts r3 hq
     have:=zql _ hq
     split at h <;> simp at h
     obtain⟨_,rfl⟩:=h;simp at this ⊢;omega
   ·simp at h;obtain⟨_,rfl⟩:=h;simp
  ·simp at h
theorem zx5(h:zsf r=some (a,r2)):r2.length < r.length:=by
 unfold zsf at h
 split at h
 ·cases hq:zeh r.tail with
  |none=>rw[hq] at h;simp at h
  |some z =>
   obtain⟨a',r'⟩:=z
   rw[hq] at h;simp at h
   have:=zlg hq
   obtain⟨_,rfl⟩:=h;simp at this;omega
 ·exact zlg h
theorem z6b(w:World)(r:Nat)(wv:Value)(l rest:List Tok)(h:Rd w r wv l rest)(hl:l.length<=500)(hp:zsf rest=none) :
  Calls Tryz.prog 181 #[.pointer (some ⟨r,0,none⟩)] w fun e w'=>e=.returned (.tuple #[.agg #[.bool false,.string ByteArray.empty,.slice none 0 0],.bool false])/\But r w w':=by
 refine(zog w r wv l rest h hl).mono ?_
 rintro e w' ⟨h1,h2⟩
 rw[hp] at h2
 exact⟨h2,h1⟩
theorem z6c(w:World)(r:Nat)(wv:Value)(l rest r2:List Tok)(a:zbu)(h:Rd w r wv l rest)(hl:l.length<=500)(hp:zsf rest=some (a,r2)) :
  Calls Tryz.prog 181 #[.pointer (some ⟨r,0,none⟩)] w fun e w'=>∃ va,e=.returned (.tuple #[.agg #[.bool a.neg,.string a.pred,va],.bool true])/\SIn w.heap.size w' va a.args/\Rd w' r wv l r2/\But r w w':=by
 refine(zog w r wv l rest h hl).mono ?_
 rintro e w' ⟨h1,h2⟩
 rw[hp] at h2
 obtain⟨v,a,b,c⟩:=h2
 exact⟨v,a,b,c,h1⟩
theorem Tryz.infoLit:(Tryz.prog.info? 90).map (fun i=>(i.zero,i.size,i.bytes))=some (some (.agg #[.bool false,.string ByteArray.empty,.slice none 0 0]),3,48):=by kernel_rfl
def zrb(o:Option (List zbu × List Tok))(w:World)(r:Nat)(wv:Value)(l:List Tok)(e:Ending)(w':World):Prop :=
 But r w w'/\match o with
  |none=>e=.returned (.tuple #[.slice none 0 0,.bool false])
  |some (ls,r2)=>∃ v,e=.returned (.tuple #[v,.bool true])/\LIn w.heap.size w' v ls/\Rd w' r wv l r2
theorem zvq{w':World}{r:Nat}{wv:Value}{l:List Tok}(h:Hid (o=none))(hb:But r w w'):zrb o w r wv l (.returned (.tuple #[.slice none 0 0,.bool false])) w':=by
 have h':o=none:=h
 subst h';exact⟨hb,rfl⟩
theorem zsv{w':World}{r:Nat}{wv:Value}{l:List Tok}{ls:List zbu}(h:Hid (o=some (ls,r2)))(hb:But r w w')(hs:LIn w.heap.size w' v ls)(hr:Rd w' r wv l r2) :
  zrb o w r wv l (.returned (.tuple #[v,.bool true])) w':=by
 have h':o=some (ls,r2):=h
 subst h';exact⟨hb,v,rfl,hs,hr⟩
theorem zxk(w:World)(r:Nat)(wv:Value)(l rest:List Tok)(h:Rd w r wv l rest)(hl:l.length<=500)(n0:Nat)(hn0:rest.length < n0) :
  Calls Tryz.prog 144 #[.pointer (some ⟨r,0,none⟩)] w fun e w'=>zrb (ze4 n0 rest) w r wv l e w':=by
 obtain⟨i0,hi,hz0,hzs,hzb⟩:=info_parts Tryz.infoLit
 have hlt:=h.lt
 go_enter Tryz.func144,Tryz.ntmps144
 go_wp2
 go_loopg [4,5] (rest.length) (fun n v t wr=>∃(acc:List zbu) (rst:List Tok) (more:Bool) (m:Nat) (xs:List Value),t=.bool more/\rst.length<=n/\rst.length < m/\rst.length+acc.length<=rest.length ∧
   wr.ownsRow w.heap.size 90 3 v acc.length xs/\zcp w.heap.size wr acc xs/\Rd wr r wv l rst/\But r w wr ∧
   Hid (more=true->ze4 n0 rest=(ze4 m rst).map fun z=>(acc++z.1,z.2))/\Hid (more=false->ze4 n0 rest=some (acc,rst)))
 case atStart=>exact⟨[],rest,true,n0,[],rfl,uaa _,hn0,by simp,World.ownsRow_nil _ _ _ _,rfl,h,But.refl _ _,(fun _=>by simp),(fun h=>by cases h)⟩
 case round =>
  obtain⟨acc,rst,more,m,xs,rfl,hn,hm,hra,hown,hlc,hrd,hbut,H1,H2⟩:=hrel
  have hrl:rest.length<=l.length:=by
   obtain⟨p,_,hp,_⟩:=h.box;rw[hp];simp
  have hws:=hbut.size
  obtain⟨c0,f0,hcell⟩:=hrd.cell
  cases more with
  |false =>
   have H3:Hid (ze4 n0 rest=some (acc,rst)):=H2 rfl
   clear H1 H2
   go_wp2
   go_ret2
   exact zsv H3 hbut ⟨_,hown,hlc⟩ hrd
  |true =>
   obtain⟨m,rfl⟩:∃ m',m=m'+1:=⟨m - 1,by omega⟩
   have HC:Hid (wr.heap[r]?=some (.cells c0 185 f0)):=hcell
   cases hL:zsf rst with
   |none =>
    have H3:Hid (ze4 n0 rest=none):=by rw[Hid.out H1 rfl,zrz hL];simp[Hid]
    have HL:Hid (zsf rst=none):=hL
    clear H1 H2 hL
    go_wp2_with (first|(go_at_call 181;refine(z6b _ r wv l rst hrd hl HL).mono ?_;rintro e w1 ⟨rfl,hbut1⟩;have hB1:=hbut.trans hbut1;have hz1:=hB1.size))
    go_ret2
    exact zvq H3 (by repeat'(first|(with_reducible exact But.refl _ _)|(with_reducible assumption)|(with_reducible refine But.drewN ?_ _)|(with_reducible refine But.alloc ?_ _)|(with_reducible refine But.drew ?_)|(with_reducible refine But.setCell ?_ _ _)|(with_reducible refine But.setNew ?_ ?_ _)|go_size))
   |some z =>
    obtain⟨a,r2⟩:=z
    have HL:Hid (zsf rst=some (a,r2)):=hL
    have hll:=zx5 hL
    have H3:Hid (ze4 n0 rest=(ze4 (m+1) rst).map fun z=>(acc++z.1,z.2)):=H1 rfl
    clear H1 H2 hL
    go_wp2_with (first|(go_at_call 181;refine(z6c _ r wv l rst r2 a hrd hl HL).mono ?_;rintro e w1 ⟨va,rfl,hsin,hr1,hbut1⟩;obtain⟨ao,cp,rfl⟩:=hsin.shape;have hB1:=hbut.trans hbut1;have hz1:=hB1.size;have ho1:=zb9 hown hbut1 hcell (by decide);have hlc1:=hlc.mono fun _ _ k=>k.but hbut1 hcell (by decide))|(at_builtin;refine zg3 w1 _ _ _ rfl (.tmp 16) (.tmp 18) 91 rfl w.heap.size 90 i0 _ 3 48 Tryz.underlying91 hi hz0 hzs hzb rfl (by decide) _ _ _ rfl ho1 ((Below.refl _ _).alloc (uaa _) _) _ _ rfl (by simp) rfl (by simp[Value.oneCell']) (by omega) (by omega) (by omega) ?_;intro v' w2 ho2 hB2 hc2 hf2 hk2 hz2';clear hc2 hf2;have hrd2:=Rd.keep h hr1 hB2;have hbut2:=hB1.onto hB2;have hs2:SIn w.heap.size w2 (Value.slice ao a.args.length cp) a.args:=zbf (zjg ho1 (by decide) hsin hk2) hws;have hlc2:=hlc1.mono fun _ _ k=>zjg ho1 (by decide) k hk2;have htk:=take_any w2 r wv l r2 6 hrd2 hl (by decide))|(go_at_call 143;refine htk.mono ?_;rintro e w3 ⟨rfl,hrd3,hbut3⟩;clear htk))
    obtain⟨c3,f3,hcell3⟩:=hrd2.cell
    have ho3:=zb9 ho2 hbut3 hcell3 (by decide)
    have hs3:=hs2.but hbut3 hcell3 (by decide)
    have hlc3:=hlc2.mono fun _ _ k=>k.but hbut3 hcell3 (by decide)
    have htl:(if hdK r2=6 then r2.tail else r2).length<=r2.length:=by split <;> simp
    have hll2:zsf rst=some (a,r2):=HL
    go_roundg r2.length
    case measure=>omega
    case rel =>
     refine⟨acc++[a],(if hdK r2=6 then r2.tail else r2),(hdK r2 == 6),m,_,rfl,htl,by omega,by simp;omega,by rw[uar];exact ho3,hlc3.snoc hs3,hrd3,hbut2.trans hbut3,?_,?_⟩
     ·intro h6
      have h6':hdK r2=6:=by simpa using h6
      rw[if_pos h6',Hid.out H3,zmd hll2 h6',zt5]
     ·intro h6
      have h6':hdK r2≠6:=by simpa using h6
      rw[if_neg h6',Hid.out H3,zme hll2 h6'];simp
end Go.Proofs.YteampbddflhngaaGreat
namespace Go.Proofs.YteampbddflhngaaGreat
set_option maxRecDepth 100000
set_option maxHeartbeats 1000000
open Go.RowKit
variable {lo:Nat}
def ze5(n:Nat)(r:List Tok):Option (zab × List Tok) :=
 match zeh r with
 |none=>none
 |some (a,r2) =>
  if hdK r2=9 then
   match ze4 n r2.tail with
   |none=>none
   |some (b,r3)=>if hdK r3=7 then some (⟨a,b⟩,r3.tail) else none
  else if hdK r2=7 then some (⟨a,[]⟩,r2.tail) else none
theorem z8f(w:World)(r:Nat)(wv:Value)(l rest:List Tok)(h:Rd w r wv l rest)(hl:l.length<=500)(n0:Nat)(hn0:rest.length < n0)(hp:ze4 n0 rest=none) :
  Calls Tryz.prog 144 #[.pointer (some ⟨r,0,none⟩)] w fun e w'=>e=.returned (.tuple #[.slice none 0 0,.bool false])/\But r w w':=by
 refine(zxk w r wv l rest h hl n0 hn0).mono ?_
 rintro e w' ⟨h1,h2⟩
 rw[hp] at h2
 exact⟨h2,h1⟩
theorem zxl(w:World)(r:Nat)(wv:Value)(l rest r2:List Tok)(b:List zbu)(h:Rd w r wv l rest)(hl:l.length<=500)(n0:Nat)(hn0:rest.length < n0)(hp:ze4 n0 rest=some (b,r2)) :
  Calls Tryz.prog 144 #[.pointer (some ⟨r,0,none⟩)] w fun e w'=>∃ v,e=.returned (.tuple #[v,.bool true])/\LIn w.heap.size w' v b/\Rd w' r wv l r2/\But r w w':=by
 refine(zxk w r wv l rest h hl n0 hn0).mono ?_
 rintro e w' ⟨h1,h2⟩
 rw[hp] at h2
 obtain⟨v,a,b,c⟩:=h2
 exact⟨v,a,b,c,h1⟩
def zfr(o:Option (zab × List Tok))(w:World)(r:Nat)(wv:Value)(l:List Tok)(e:Ending)(w':World):Prop :=
 But r w w'/\match o with
  |none=>e=.returned (.tuple #[.agg #[.bool false,.string ByteArray.empty,.slice none 0 0,.slice none 0 0],.bool false])
  |some (c,r2)=>∃ va vb,e=.returned (.tuple #[.agg #[.bool c.head.neg,.string c.head.pred,va,vb],.bool true])/\SIn w.heap.size w' va c.head.args/\LIn w.heap.size w' vb c.body/\Rd w' r wv l r2
theorem z5g(w:World)(r:Nat)(wv:Value)(l rest:List Tok)(h:Rd w r wv l rest)(hl:l.length<=500)(ha:zeh rest=none) :
  Calls Tryz.prog 100 #[.pointer (some ⟨r,0,none⟩)] w fun e w'=>zfr none w r wv l e w':=by
 have hlt:=h.lt
 have hne:w.heap.size≠r:=by omega
 have HA:Hid (zeh rest=none):=ha
 clear ha
 go_enter Tryz.func100,Tryz.ntmps100
 go_wp2_with (first|(go_at_call 142;refine(zsr _ r wv l rest (by exact h.below (by go_grown)) hl HA).mono ?_;rintro e w1 ⟨rfl,hbut1⟩;have hx1:=(Box.new w _ _).but hbut1 hne;obtain⟨hc1,hf1⟩:=hx1.rules;have hz1:=hx1.lt;have hB1:=((But.refl r w).alloc _).trans hbut1))
 exact bodyPost_ret (v:=.tuple #[.agg #[.bool false,.string ByteArray.empty,.slice none 0 0,.slice none 0 0],.bool false]) (by simp[results,Tryz.results100,go_sem,hc1,hz1];rfl) rfl ⟨(by repeat'(first|(with_reducible exact But.refl _ _)|(with_reducible assumption)|(with_reducible refine But.drewN ?_ _)|(with_reducible refine But.alloc ?_ _)|(with_reducible refine But.drew ?_)|(with_reducible refine But.setCell ?_ _ _)|(with_reducible refine But.setNew ?_ ?_ _)|go_size)),rfl⟩
theorem z5h(w:World)(r:Nat)(wv:Value)(l rest:List Tok)(h:Rd w r wv l rest)(hl:l.length<=500)(r1:List Tok)(a:zbu)(ha:zeh rest=some (a,r1))(h9:hdK r1≠9)(h7:hdK r1≠7) :
  Calls Tryz.prog 100 #[.pointer (some ⟨r,0,none⟩)] w fun e w'=>zfr none w r wv l e w':=by
 have hlt:=h.lt
 have hne:w.heap.size≠r:=by omega
 have HA:Hid (zeh rest=some (a,r1)):=ha
 have H9:Hid (hdK r1≠9):=h9
 have H7:Hid (hdK r1≠7):=h7
 clear ha h9 h7
 go_enter Tryz.func100,Tryz.ntmps100
 go_wp2_with (first|(go_at_call 142;refine(zhr _ r wv l rest r1 a (by exact h.below (by go_grown)) hl HA).mono ?_;rintro e w1 ⟨va,rfl,hs1,hr1,hbut1⟩;obtain⟨ao,cp,rfl⟩:=hs1.shape;have hx1:=(Box.new w _ _).but hbut1 hne;have hz1:=hx1.lt;have hlt1:=hr1.lt;have hne1:w1.heap.size≠r:=(by omega);have hB1:=((But.refl r w).alloc _).trans hbut1)|(go_at_call 143;have hq:=hr2;refine(zjb _ r wv l r1 7 hq hl (by decide) H7).mono ?_;rintro e w3 ⟨rfl,hr3,hbut3⟩;obtain⟨c7,f7,hcell7⟩:=hq.cell;have hs3:=hs2.but hbut3 hcell7 (by decide);have hx3:=hx2.but hbut3 hne;have hy3:=hy2.but hbut3 hne1;clear hc2 hf2 hd2 he2;obtain⟨hc3,hf3⟩:=hx3.rules;obtain⟨hd3,he3⟩:=hy3.rules;have hz3:=hx3.lt;have hzy3:=hy3.lt;have hlt3:=hr3.lt;have hB3:=hB2.trans hbut3;clear hq hcell7)|(go_at_call 143;have hq:=hr1;refine(zjb _ r wv l r1 9 (by exact hq.below (by go_grown)) hl (by decide) H9).mono ?_;rintro e w2 ⟨rfl,hr2,hbut2⟩;have hq1:=(But.refl r w1).alloc (Obj.cells #[.bool a.neg,.string a.pred,.slice ao a.args.length cp] 90);obtain⟨c1,f1,hcell1⟩:=hr1.cell;have hs2:=hs1.but (hq1.trans hbut2) hcell1 (by decide);have hx2:=(hx1.below ((Below.refl _ _).alloc (uaa _) _)).but hbut2 hne;have hy2:=(Box.new w1 _ _).but hbut2 hne1;obtain⟨hc2,hf2⟩:=hx2.rules;obtain⟨hd2,he2⟩:=hy2.rules;have hz2:=hx2.lt;have hzy2:=hy2.lt;have hlt2:=hr2.lt;have hB2:=hB1.trans (hq1.trans hbut2);clear hq hq1 hcell1))
 exact bodyPost_ret (v:=.tuple #[.agg #[.bool false,.string ByteArray.empty,.slice none 0 0,.slice none 0 0],.bool false]) (by simp[results,Tryz.results100,go_sem,hc3];rfl) rfl ⟨(by repeat'(first|(with_reducible exact But.refl _ _)|(with_reducible assumption)|(with_reducible refine But.drewN ?_ _)|(with_reducible refine But.alloc ?_ _)|(with_reducible refine But.drew ?_)|(with_reducible refine But.setCell ?_ _ _)|(with_reducible refine But.setNew ?_ ?_ _)|go_size)),rfl⟩
theorem z5i(w:World)(r:Nat)(wv:Value)(l rest:List Tok)(h:Rd w r wv l rest)(hl:l.length<=500)(r1:List Tok)(a:zbu)(ha:zeh rest=some (a,r1))(h9:hdK r1≠9)(h7:hdK r1=7) :
  Calls Tryz.prog 100 #[.pointer (some ⟨r,0,none⟩)] w fun e w'=>zfr (some (⟨a,[]⟩,r1.tail)) w r wv l e w':=by
 have hlt:=h.lt
 have hne:w.heap.size≠r:=by omega
 have HA:Hid (zeh rest=some (a,r1)):=ha
 have H9:Hid (hdK r1≠9):=h9
 have H7:Hid (hdK r1=7):=h7
 clear ha h9 h7
 go_enter Tryz.func100,Tryz.ntmps100
 go_wp2_with (first|(go_at_call 142;refine(zhr _ r wv l rest r1 a (by exact h.below (by go_grown)) hl HA).mono ?_;rintro e w1 ⟨va,rfl,hs1,hr1,hbut1⟩;obtain⟨ao,cp,rfl⟩:=hs1.shape;have hx1:=(Box.new w _ _).but hbut1 hne;have hz1:=hx1.lt;have hlt1:=hr1.lt;have hne1:w1.heap.size≠r:=(by omega);have hB1:=((But.refl r w).alloc _).trans hbut1)|(go_at_call 143;have hq:=hr2;refine(zdw _ r wv l r1 7 hq hl (by decide) H7).mono ?_;rintro e w3 ⟨rfl,hr3,hbut3⟩;obtain⟨c7,f7,hcell7⟩:=hq.cell;have hs3:=hs2.but hbut3 hcell7 (by decide);have hx3:=hx2.but hbut3 hne;have hy3:=hy2.but hbut3 hne1;clear hc2 hf2 hd2 he2;obtain⟨hc3,hf3⟩:=hx3.rules;obtain⟨hd3,he3⟩:=hy3.rules;have hz3:=hx3.lt;have hzy3:=hy3.lt;have hlt3:=hr3.lt;have hB3:=hB2.trans hbut3;clear hq hcell7)|(go_at_call 143;have hq:=hr1;refine(zjb _ r wv l r1 9 (by exact hq.below (by go_grown)) hl (by decide) H9).mono ?_;rintro e w2 ⟨rfl,hr2,hbut2⟩;have hq1:=(But.refl r w1).alloc (Obj.cells #[.bool a.neg,.string a.pred,.slice ao a.args.length cp] 90);obtain⟨c1,f1,hcell1⟩:=hr1.cell;have hs2:=hs1.but (hq1.trans hbut2) hcell1 (by decide);have hx2:=(hx1.below ((Below.refl _ _).alloc (uaa _) _)).but hbut2 hne;have hy2:=(Box.new w1 _ _).but hbut2 hne1;obtain⟨hc2,hf2⟩:=hx2.rules;obtain⟨hd2,he2⟩:=hy2.rules;have hz2:=hx2.lt;have hzy2:=hy2.lt;have hlt2:=hr2.lt;have hB2:=hB1.trans (hq1.trans hbut2);clear hq hq1 hcell1))
 exact bodyPost_ret (v:=.tuple #[.agg #[.bool a.neg,.string a.pred,.slice ao a.args.length cp,.slice none 0 0],.bool true]) (by simp[results,Tryz.results100,go_sem,hc3]) rfl ⟨(by repeat'(first|(with_reducible exact But.refl _ _)|(with_reducible assumption)|(with_reducible refine But.drewN ?_ _)|(with_reducible refine But.alloc ?_ _)|(with_reducible refine But.drew ?_)|(with_reducible refine But.setCell ?_ _ _)|(with_reducible refine But.setNew ?_ ?_ _)|go_size)),_,_,rfl,(hs3.low (by first|(simp;done)|omega)).but (r:=w.heap.size) (by repeat'(first|(with_reducible exact But.refl _ _)|(with_reducible assumption)|(with_reducible refine But.drewN ?_ _)|(with_reducible refine But.alloc ?_ _)|(with_reducible refine But.drew ?_)|(with_reducible refine But.setCell ?_ _ _)|(with_reducible refine But.setNew ?_ ?_ _)|go_size)) hx3 (by decide),LIn.nil _,h.keep hr3 (by go_grown)⟩
theorem z5j(w:World)(r:Nat)(wv:Value)(l rest:List Tok)(h:Rd w r wv l rest)(hl:l.length<=500)(r1:List Tok)(a:zbu)(n0:Nat)(ha:zeh rest=some (a,r1))(h9:hdK r1=9)(hn:r1.tail.length < n0)(hb:ze4 n0 r1.tail=none) :
  Calls Tryz.prog 100 #[.pointer (some ⟨r,0,none⟩)] w fun e w'=>zfr none w r wv l e w':=by
 have hlt:=h.lt
 have hne:w.heap.size≠r:=by omega
 have HA:Hid (zeh rest=some (a,r1)):=ha
 have H9:Hid (hdK r1=9):=h9
 have HN:Hid (r1.tail.length < n0):=hn
 have HB:Hid (ze4 n0 r1.tail=none):=hb
 clear ha h9 hn hb
 go_enter Tryz.func100,Tryz.ntmps100
 go_wp2_with (first|(go_at_call 142;refine(zhr _ r wv l rest r1 a (by exact h.below (by go_grown)) hl HA).mono ?_;rintro e w1 ⟨va,rfl,hs1,hr1,hbut1⟩;obtain⟨ao,cp,rfl⟩:=hs1.shape;have hx1:=(Box.new w _ _).but hbut1 hne;have hz1:=hx1.lt;have hlt1:=hr1.lt;have hne1:w1.heap.size≠r:=(by omega);have hB1:=((But.refl r w).alloc _).trans hbut1)|(go_at_call 144;refine(z8f _ r wv l r1.tail hr2 hl n0 HN HB).mono ?_;rintro e w3 ⟨rfl,hbut3⟩;have hx3:=hx2.but hbut3 hne;have hy3:=hy2.but hbut3 hne1;clear hc2 hf2 hd2 he2;obtain⟨hc3,hf3⟩:=hx3.rules;obtain⟨hd3,he3⟩:=hy3.rules;have hz3:=hx3.lt;have hzy3:=hy3.lt;have hB3:=hB2.trans hbut3)|(go_at_call 143;have hq:=hr1;refine(zdw _ r wv l r1 9 (by exact hq.below (by go_grown)) hl (by decide) H9).mono ?_;rintro e w2 ⟨rfl,hr2,hbut2⟩;have hq1:=(But.refl r w1).alloc (Obj.cells #[.bool a.neg,.string a.pred,.slice ao a.args.length cp] 90);obtain⟨c1,f1,hcell1⟩:=hr1.cell;have hs2:=hs1.but (hq1.trans hbut2) hcell1 (by decide);have hx2:=(hx1.below ((Below.refl _ _).alloc (uaa _) _)).but hbut2 hne;have hy2:=(Box.new w1 _ _).but hbut2 hne1;obtain⟨hc2,hf2⟩:=hx2.rules;obtain⟨hd2,he2⟩:=hy2.rules;have hz2:=hx2.lt;have hzy2:=hy2.lt;have hlt2:=hr2.lt;have hB2:=hB1.trans (hq1.trans hbut2);clear hq hq1 hcell1))
 exact bodyPost_ret (v:=.tuple #[.agg #[.bool false,.string ByteArray.empty,.slice none 0 0,.slice none 0 0],.bool false]) (by simp[results,Tryz.results100,go_sem,hc3];rfl) rfl ⟨(by repeat'(first|(with_reducible exact But.refl _ _)|(with_reducible assumption)|(with_reducible refine But.drewN ?_ _)|(with_reducible refine But.alloc ?_ _)|(with_reducible refine But.drew ?_)|(with_reducible refine But.setCell ?_ _ _)|(with_reducible refine But.setNew ?_ ?_ _)|go_size)),rfl⟩
theorem z5k(w:World)(r:Nat)(wv:Value)(l rest:List Tok)(h:Rd w r wv l rest)(hl:l.length<=500)(r1 r2:List Tok)(a:zbu)(b:List zbu)(n0:Nat)(ha:zeh rest=some (a,r1))(h9:hdK r1=9)(hn:r1.tail.length < n0)(hb:ze4 n0 r1.tail=some (b,r2))(h7:hdK r2≠7) :
  Calls Tryz.prog 100 #[.pointer (some ⟨r,0,none⟩)] w fun e w'=>zfr none w r wv l e w':=by
 have hlt:=h.lt
 have hne:w.heap.size≠r:=by omega
 have HA:Hid (zeh rest=some (a,r1)):=ha
 have H9:Hid (hdK r1=9):=h9
 have HN:Hid (r1.tail.length < n0):=hn
 have HB:Hid (ze4 n0 r1.tail=some (b,r2)):=hb
 have H7:Hid (hdK r2≠7):=h7
 clear ha h9 hn hb h7
 go_enter Tryz.func100,Tryz.ntmps100
 go_wp2_with (first|(go_at_call 142;refine(zhr _ r wv l rest r1 a (by exact h.below (by go_grown)) hl HA).mono ?_;rintro e w1 ⟨va,rfl,hs1,hr1,hbut1⟩;obtain⟨ao,cp,rfl⟩:=hs1.shape;have hx1:=(Box.new w _ _).but hbut1 hne;have hz1:=hx1.lt;have hlt1:=hr1.lt;have hne1:w1.heap.size≠r:=(by omega);have hB1:=((But.refl r w).alloc _).trans hbut1)|(go_at_call 144;refine(zxl _ r wv l r1.tail r2 b hr2 hl n0 HN HB).mono ?_;rintro e w3 ⟨vb,rfl,hl3,hr3,hbut3⟩;obtain⟨aob,cpb,rfl⟩:=hl3.shape;obtain⟨c3,f3,hcell3⟩:=hr2.cell;have hs3:=hs2.but hbut3 hcell3 (by decide);have hx3:=hx2.but hbut3 hne;have hy3:=hy2.but hbut3 hne1;clear hc2 hf2 hd2 he2;obtain⟨hc3,hf3⟩:=hx3.rules;obtain⟨hd3,he3⟩:=hy3.rules;have hz3:=hx3.lt;have hzy3:=hy3.lt;have hlt3:=hr3.lt;have hB3:=hB2.trans hbut3;clear hcell3)|(go_at_call 143;have hq:=hr3;refine(zjb _ r wv l r2 7 hq hl (by decide) H7).mono ?_;rintro e w4 ⟨rfl,hr4,hbut4⟩;obtain⟨c7,f7,hcell7⟩:=hq.cell;have hs4:=hs3.but hbut4 hcell7 (by decide);have hx4:=hx3.but hbut4 hne;have hy4:=hy3.but hbut4 hne1;clear hc3 hf3 hd3 he3;obtain⟨hc4,hf4⟩:=hx4.rules;obtain⟨hd4,he4⟩:=hy4.rules;have hz4:=hx4.lt;have hzy4:=hy4.lt;have hlt4:=hr4.lt;have hB4:=hB3.trans hbut4;clear hq hcell7)|(go_at_call 143;have hq:=hr1;refine(zdw _ r wv l r1 9 (by exact hq.below (by go_grown)) hl (by decide) H9).mono ?_;rintro e w2 ⟨rfl,hr2,hbut2⟩;have hq1:=(But.refl r w1).alloc (Obj.cells #[.bool a.neg,.string a.pred,.slice ao a.args.length cp] 90);obtain⟨c1,f1,hcell1⟩:=hr1.cell;have hs2:=hs1.but (hq1.trans hbut2) hcell1 (by decide);have hx2:=(hx1.below ((Below.refl _ _).alloc (uaa _) _)).but hbut2 hne;have hy2:=(Box.new w1 _ _).but hbut2 hne1;obtain⟨hc2,hf2⟩:=hx2.rules;obtain⟨hd2,he2⟩:=hy2.rules;have hz2:=hx2.lt;have hzy2:=hy2.lt;have hlt2:=hr2.lt;have hB2:=hB1.trans (hq1.trans hbut2);clear hq hq1 hcell1))
 exact bodyPost_ret (v:=.tuple #[.agg #[.bool false,.string ByteArray.empty,.slice none 0 0,.slice none 0 0],.bool false]) (by simp[results,Tryz.results100,go_sem,hc4];rfl) rfl ⟨(by repeat'(first|(with_reducible exact But.refl _ _)|(with_reducible assumption)|(with_reducible refine But.drewN ?_ _)|(with_reducible refine But.alloc ?_ _)|(with_reducible refine But.drew ?_)|(with_reducible refine But.setCell ?_ _ _)|(with_reducible refine But.setNew ?_ ?_ _)|go_size)),rfl⟩
theorem z5l(w:World)(r:Nat)(wv:Value)(l rest:List Tok)(h:Rd w r wv l rest)(hl:l.length<=500)(r1 r2:List Tok)(a:zbu)(b:List zbu)(n0:Nat)(ha:zeh rest=some (a,r1))(h9:hdK r1=9)(hn:r1.tail.length < n0)(hb:ze4 n0 r1.tail=some (b,r2))(h7:hdK r2=7) :
  Calls Tryz.prog 100 #[.pointer (some ⟨r,0,none⟩)] w fun e w'=>zfr (some (⟨a,b⟩,r2.tail)) w r wv l e w':=by
 have hlt:=h.lt
 have hne:w.heap.size≠r:=by omega
 have HA:Hid (zeh rest=some (a,r1)):=ha
 have H9:Hid (hdK r1=9):=h9
 have HN:Hid (r1.tail.length < n0):=hn
 have HB:Hid (ze4 n0 r1.tail=some (b,r2)):=hb
 have H7:Hid (hdK r2=7):=h7
 clear ha h9 hn hb h7
 go_enter Tryz.func100,Tryz.ntmps100
 go_wp2_with (first|(go_at_call 142;refine(zhr _ r wv l rest r1 a (by exact h.below (by go_grown)) hl HA).mono ?_;rintro e w1 ⟨va,rfl,hs1,hr1,hbut1⟩;obtain⟨ao,cp,rfl⟩:=hs1.shape;have hx1:=(Box.new w _ _).but hbut1 hne;have hz1:=hx1.lt;have hlt1:=hr1.lt;have hne1:w1.heap.size≠r:=(by omega);have hB1:=((But.refl r w).alloc _).trans hbut1)|(go_at_call 144;refine(zxl _ r wv l r1.tail r2 b hr2 hl n0 HN HB).mono ?_;rintro e w3 ⟨vb,rfl,hl3,hr3,hbut3⟩;obtain⟨aob,cpb,rfl⟩:=hl3.shape;obtain⟨c3,f3,hcell3⟩:=hr2.cell;have hs3:=hs2.but hbut3 hcell3 (by decide);have hx3:=hx2.but hbut3 hne;have hy3:=hy2.but hbut3 hne1;clear hc2 hf2 hd2 he2;obtain⟨hc3,hf3⟩:=hx3.rules;obtain⟨hd3,he3⟩:=hy3.rules;have hz3:=hx3.lt;have hzy3:=hy3.lt;have hlt3:=hr3.lt;have hB3:=hB2.trans hbut3;clear hcell3)|(go_at_call 143;have hq:=hr3;refine(zdw _ r wv l r2 7 hq hl (by decide) H7).mono ?_;rintro e w4 ⟨rfl,hr4,hbut4⟩;obtain⟨c7,f7,hcell7⟩:=hq.cell;have hs4:=hs3.but hbut4 hcell7 (by decide);have hl4:=hl3.but hbut4 hcell7 (by decide) (by decide);have hx4:=hx3.but hbut4 hne;have hy4:=hy3.but hbut4 hne1;clear hc3 hf3 hd3 he3;obtain⟨hc4,hf4⟩:=hx4.rules;obtain⟨hd4,he4⟩:=hy4.rules;have hz4:=hx4.lt;have hzy4:=hy4.lt;have hlt4:=hr4.lt;have hB4:=hB3.trans hbut4;clear hq hcell7)|(go_at_call 143;have hq:=hr1;refine(zdw _ r wv l r1 9 (by exact hq.below (by go_grown)) hl (by decide) H9).mono ?_;rintro e w2 ⟨rfl,hr2,hbut2⟩;have hq1:=(But.refl r w1).alloc (Obj.cells #[.bool a.neg,.string a.pred,.slice ao a.args.length cp] 90);obtain⟨c1,f1,hcell1⟩:=hr1.cell;have hs2:=hs1.but (hq1.trans hbut2) hcell1 (by decide);have hx2:=(hx1.below ((Below.refl _ _).alloc (uaa _) _)).but hbut2 hne;have hy2:=(Box.new w1 _ _).but hbut2 hne1;obtain⟨hc2,hf2⟩:=hx2.rules;obtain⟨hd2,he2⟩:=hy2.rules;have hz2:=hx2.lt;have hzy2:=hy2.lt;have hlt2:=hr2.lt;have hB2:=hB1.trans (hq1.trans hbut2);clear hq hq1 hcell1))
 exact bodyPost_ret (v:=.tuple #[.agg #[.bool a.neg,.string a.pred,.slice ao a.args.length cp,.slice aob b.length cpb],.bool true]) (by simp[results,Tryz.results100,go_sem,hc4]) rfl ⟨(by repeat'(first|(with_reducible exact But.refl _ _)|(with_reducible assumption)|(with_reducible refine But.drewN ?_ _)|(with_reducible refine But.alloc ?_ _)|(with_reducible refine But.drew ?_)|(with_reducible refine But.setCell ?_ _ _)|(with_reducible refine But.setNew ?_ ?_ _)|go_size)),_,_,rfl,(hs4.low (by first|(simp;done)|omega)).but (r:=w.heap.size) (by repeat'(first|(with_reducible exact But.refl _ _)|(with_reducible assumption)|(with_reducible refine But.drewN ?_ _)|(with_reducible refine But.alloc ?_ _)|(with_reducible refine But.drew ?_)|(with_reducible refine But.setCell ?_ _ _)|(with_reducible refine But.setNew ?_ ?_ _)|go_size)) hx4 (by decide),(hl4.low (by first|(simp;done)|omega)).but (r:=w.heap.size) (by repeat'(first|(with_reducible exact But.refl _ _)|(with_reducible assumption)|(with_reducible refine But.drewN ?_ _)|(with_reducible refine But.alloc ?_ _)|(with_reducible refine But.drew ?_)|(with_reducible refine But.setCell ?_ _ _)|(with_reducible refine But.setNew ?_ ?_ _)|go_size)) hx4 (by decide) (by decide),h.keep hr4 (by go_grown)⟩
theorem zpy(w:World)(r:Nat)(wv:Value)(l rest:List Tok)(h:Rd w r wv l rest)(hl:l.length<=500)(n0:Nat)(hn0:rest.length<=n0) :
  Calls Tryz.prog 100 #[.pointer (some ⟨r,0,none⟩)] w fun e w'=>zfr (ze5 n0 rest) w r wv l e w':=by
 unfold ze5
 split
 ·rename_i ha;exact z5g w r wv l rest h hl ha
 ·rename_i a r1 ha
  have hlen:=zlg ha
  split
  ·rename_i h9
   have hn:r1.tail.length < n0:=by simp;omega
   split
   ·rename_i hb;exact z5j w r wv l rest h hl r1 a n0 ha h9 hn hb
   ·rename_i b r2 hb
    split
    ·rename_i h7;exact z5l w r wv l rest h hl r1 r2 a b n0 ha h9 hn hb h7
    ·rename_i h7;exact z5k w r wv l rest h hl r1 r2 a b n0 ha h9 hn hb h7
  ·rename_i h9
   split
   ·rename_i h7;exact z5i w r wv l rest h hl r1 a ha h9 h7
   ·rename_i h7;exact z5h w r wv l rest h hl r1 a ha h9 h7
end Go.Proofs.YteampbddflhngaaGreat
