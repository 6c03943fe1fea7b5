import Derived.Test.YteampbddflhngabGreatZ03

namespace Go.Proofs.YteampbddflhngabGreat
set_option maxRecDepth 100000
set_option maxHeartbeats 1000000
open Go.RowKit
variable {lo:Nat}
def zdp(lo:Nat)(w:World):List zab->List Value->Prop
 |[],xs=>xs=[]
 |c::cs,xs=>∃ va vb r,xs=.bool c.head.neg::.string c.head.pred::va::vb::r/\SIn lo w va c.head.args/\LIn lo w vb c.body/\zdp lo w cs r
theorem zdp.snoc{w:World}{c:zab}{va vb:Value}(hs:SIn lo w va c.head.args)(hb:LIn lo w vb c.body):∀ {ls:List zab} {xs:List Value},zdp lo w ls xs->zdp lo w (ls++[c]) (xs++[.bool c.head.neg,.string c.head.pred,va,vb])
 |[],_,h=>by simp only[zdp] at h;subst h;exact⟨va,vb,[],rfl,hs,hb,rfl⟩
 |_::ls,_,h=>by obtain⟨v,v2,r,rfl,h1,h2,h3⟩:=h;exact⟨v,v2,r++[.bool c.head.neg,.string c.head.pred,va,vb],rfl,h1,h2,zdp.snoc hs hb h3⟩
theorem zdp.mono{w w':World}(hm:∀ va l,SIn lo w va l->SIn lo w' va l)(hm2:∀ va l,LIn lo w va l->LIn lo w' va l):∀ {ls:List zab} {xs:List Value},zdp lo w ls xs->zdp lo w' ls xs
 |[],_,h=>h
 |_::ls,_,h=>by obtain⟨v,v2,r,rfl,h1,h2,h3⟩:=h;exact⟨v,v2,r,rfl,hm _ _ h1,hm2 _ _ h2,zdp.mono hm hm2 h3⟩
theorem zdp.at{w:World}:∀ {ls:List zab} {xs:List Value} (i:Nat) (c:zab),zdp lo w ls xs->ls[i]?=some c →
  ∃ va vb,xs[i * 4]?=some (.bool c.head.neg)/\xs[i * 4+1]?=some (.string c.head.pred)/\xs[i * 4+2]?=some va/\xs[i * 4+3]?=some vb/\SIn lo w va c.head.args/\LIn lo w vb c.body
 |[],_,i,a,_,hi=>by simp at hi
 |_::ls,_,0,a,h,hi=>by obtain⟨v,v2,r,rfl,h1,h2,h3⟩:=h;simp at hi;subst hi;exact⟨v,v2,rfl,rfl,rfl,rfl,h1,h2⟩
 |_::ls,_,i+1,a,h,hi=>by
  obtain⟨v,v2,r,rfl,h1,h2,h3⟩:=h
  obtain⟨va,vb,a1,a2,a3,a4,a5⟩:=zdp.at i a h3 (by simpa using hi)
  refine⟨va,vb,?_,?_,?_,?_,a5⟩
  ·rw[show(i+1) * 4=i * 4+1+1+1+1 from by omega];simpa using a1
  ·rw[show(i+1) * 4+1=i * 4+1+1+1+1+1 from by omega];simpa using a2
  ·rw[show(i+1) * 4+2=i * 4+2+1+1+1+1 from by omega];simpa using a3
  ·rw[show(i+1) * 4+3=i * 4+3+1+1+1+1 from by omega];simpa using a4
def CIn(lo:Nat)(T:TypeId)(w:World)(v:Value)(ls:List zab):Prop:=∃ xs,w.ownsRow lo T 4 v ls.length xs/\zdp lo w ls xs
theorem zdp.low{a b:Nat}{w:World}(hab:a<=b):∀ {ls:List zab} {xs:List Value},zdp b w ls xs->zdp a w ls xs
 |[],_,h=>h
 |_::ls,_,h=>by obtain⟨v,v2,r,rfl,h1,h2,h3⟩:=h;exact⟨v,v2,r,rfl,h1.low hab,h2.low hab,zdp.low hab h3⟩
theorem CIn.low{a b:Nat}{T:TypeId}{w:World}{v:Value}{l:List zab}(h:CIn b T w v l)(hab:a<=b):CIn a T w v l:=by obtain⟨xs,h,hc⟩:=h;exact⟨xs,zbe h hab,hc.low hab⟩
theorem CIn.shape{T:TypeId}{w:World}{v:Value}{l:List zab}(h:CIn lo T w v l):∃ ao cap,v=.slice ao l.length cap:=by obtain⟨xs,h,_⟩:=h;exact zac h
theorem CIn.below{T:TypeId}{w w':World}{v:Value}{l:List zab}(h:CIn lo T w v l)(hb:Below w.heap.size w w'):CIn lo T w' v l:=by
 obtain⟨xs,h,hc⟩:=h;exact⟨xs,zaa h hb,hc.mono (fun _ _ k=>k.below hb) (fun _ _ k=>k.below hb)⟩
theorem LIn.push{wO w2:World}{b:Nat}{e:TypeId}{s:Nat}{v v2:Value}{n:Nat}{xs:List Value}{ls:List zbz}(hv:wO.ownsRow b e s v n xs)(hne:e≠45)(hne2:e≠9)(h:LIn lo wO v2 ls)
  (hk:∀ k,k < wO.heap.size->some k≠v.ownBlock->w2.heap[k]?=wO.heap[k]?):LIn lo w2 v2 ls:=by
 obtain⟨xs2,h1,h2⟩:=h
 exact⟨xs2,zi7 hv hne h1 hk,h2.mono fun _ _ k=>zi7 hv hne2 k hk⟩
def zes(n0:Nat):Nat->List Tok->Option (List zab)
 |_,[]=>some []
 |0,_::_=>none
 |m+1,x::r=>match ze2 n0 (x::r) with
  |none=>none
  |some (c,r2)=>(zes n0 m r2).map (c::·)
theorem zxg{n0 m:Nat}{r:List Tok}(hr:r≠[])(h:ze2 n0 r=none):zes n0 (m+1) r=none:=by
 cases r with
 |nil=>exact absurd rfl hr
 |cons x r=>simp[zes,h]
theorem ztr{n0 m:Nat}{r r2:List Tok}{c:zab}(hr:r≠[])(h:ze2 n0 r=some (c,r2)):zes n0 (m+1) r=(zes n0 m r2).map (c::·):=by
 cases r with
 |nil=>exact absurd rfl hr
 |cons x r=>simp[zes,h]
theorem z2i{n:Nat}:∀ {r r2:List Tok} {b:List zbz},ze1 n r=some (b,r2)->r2.length < r.length:=by
 induction n with
 |zero=>intro r r2 b h;simp[ze1] at h
 |succ n ih =>
  intro r r2 b h
  cases hl:zrt r with
  |none=>rw[zq9 hl] at h;cases h
  |some z =>
   obtain⟨a,r3⟩:=z
   have:=zxf hl
   by_cases h6:hdK r3=6
   ·rw[zlx hl h6] at h
    cases hq:ze1 n r3.tail with
    |none=>rw[hq] at h;simp at h
    |some z =>
     rw[hq] at h;simp at h
     have:=ih hq
     obtain⟨_,rfl⟩:=h;simp at this;omega
   ·rw[zly hl h6] at h;simp at h;obtain⟨_,rfl⟩:=h;omega
theorem zvu{n:Nat}{r r2:List Tok}{c:zab}(h:ze2 n r=some (c,r2)):r2.length < r.length:=by
 unfold ze2 at h
 split at h
 ·cases h
 ·rename_i a r1 ha
  have:=zk5 ha
  split at h
  ·split at h
   ·cases h
   ·rename_i b r3 hb
    have:=z2i hb
    split at h <;> simp at h
    obtain⟨_,rfl⟩:=h;simp at this ⊢;omega
  ·split at h <;> simp at h
   obtain⟨_,rfl⟩:=h;simp;omega
theorem z0q(w:World)(r:Nat)(wv:Value)(l rest:List Tok)(h:Rd w r wv l rest)(hl:l.length<=500)(n0:Nat)(hn0:rest.length<=n0)(hp:ze2 n0 rest=none) :
  Calls Tryz.prog 61 #[.pointer (some ⟨r,0,none⟩)] w fun e w'=>e=.returned (.tuple #[.agg #[.bool false,.string ByteArray.empty,.slice none 0 0,.slice none 0 0],.bool false])/\But r w w':=by
 refine(zpd w r wv l rest h hl n0 hn0).mono ?_
 rintro e w' ⟨h1,h2⟩
 rw[hp] at h2
 exact⟨h2,h1⟩
theorem zyb(w:World)(r:Nat)(wv:Value)(l rest r2:List Tok)(c:zab)(h:Rd w r wv l rest)(hl:l.length<=500)(n0:Nat)(hn0:rest.length<=n0)(hp:ze2 n0 rest=some (c,r2)) :
  Calls Tryz.prog 61 #[.pointer (some ⟨r,0,none⟩)] w fun e w'=>∃ va vb,e=.returned (.tuple #[.agg #[.bool c.head.neg,.string c.head.pred,va,vb],.bool true])/\SIn w.heap.size w' va c.head.args/\LIn w.heap.size w' vb c.body/\Rd w' r wv l r2/\But r w w':=by
 refine(zpd w r wv l rest h hl n0 hn0).mono ?_
 rintro e w' ⟨h1,h2⟩
 rw[hp] at h2
 obtain⟨v,v2,a,b,c,d⟩:=h2
 exact⟨v,v2,a,b,c,d,h1⟩
theorem Tryz.infoClause:(Tryz.prog.info? 90).map (fun i=>(i.zero,i.size,i.bytes))=some (some (.agg #[.bool false,.string ByteArray.empty,.slice none 0 0,.slice none 0 0]),4,72):=by kernel_rfl
def zm6(o:Option (List zab))(w:World)(e:Ending)(w':World):Prop :=
 Below w.heap.size w w'/\match o with
  |none=>e=.returned (.tuple #[.slice none 0 0,.bool false])
  |some cs=>∃ v,e=.returned (.tuple #[v,.bool true])/\CIn w.heap.size 90 w' v cs
theorem ztu{o:Option (List zab)}{w w':World}(h:Hid (o=none))(hb:Below w.heap.size w w'):zm6 o w (.returned (.tuple #[.slice none 0 0,.bool false])) w':=by
 have h':o=none:=h
 subst h';exact⟨hb,rfl⟩
theorem zra{o:Option (List zab)}{w w':World}{v:Value}{cs:List zab}(h:Hid (o=some cs))(hb:Below w.heap.size w w')(hs:CIn w.heap.size 90 w' v cs):zm6 o w (.returned (.tuple #[v,.bool true])) w':=by
 have h':o=some cs:=h
 subst h';exact⟨hb,v,rfl,hs⟩
theorem parse_any(w:World)(wv:Value)(l:List Tok)(base:Nat)(hw:w.ownsRow base 129 2 wv l.length (zgd l))(hl:l.length<=500) :
  Calls Tryz.prog 38 #[wv] w fun e w'=>zm6 (zes l.length l.length l) w e w':=by
 obtain⟨i0,hi,hz0,hzs,hzb⟩:=info_parts Tryz.infoClause
 obtain⟨ao,cap,rfl⟩:=zac hw
 have h0:Rd (w.alloc (.cells #[.slice ao l.length cap,.int .i64 0] 132)) w.heap.size (.slice ao l.length cap) l l :=
  ⟨⟨0,Nat.zero_le _,rfl,Box.new _ _ _⟩,base,zaa hw ((Below.refl _ _).alloc (Nat.le_refl _) _)⟩
 clear hw
 go_enter Tryz.func38,Tryz.ntmps38
 go_wp2
 go_loopg [5] (l.length) (fun n v wr=>∃(acc:List zab) (rst:List Tok) (m:Nat) (xs:List Value),rst.length<=n/\rst.length<=m/\rst.length+acc.length<=l.length ∧
   wr.ownsRow (w.heap.size+1) 90 4 v acc.length xs/\zdp w.heap.size wr acc xs/\Rd wr w.heap.size (.slice ao l.length cap) l rst/\But w.heap.size (w.alloc (.cells #[.slice ao l.length cap,.int .i64 0] 132)) wr ∧
   Hid (zes l.length l.length l=(zes l.length m rst).map (acc++·)))
 case atStart=>exact⟨[],l,l.length,[],Nat.le_refl _,Nat.le_refl _,by simp,World.ownsRow_nil _ _ _ _,rfl,h0,But.refl _ _,(by simp[Hid])⟩
 case round =>
  obtain⟨acc,rst,m,xs,hn,hm,hra,hown,hlc,hrd,hbut,H1⟩:=hrel
  have hwr:w.heap.size<=wr.heap.size:=by have:=hbut.size;simp at this;omega
  obtain⟨c0,f0,hcell⟩:=hrd.cell
  have HCELL:Hid (wr.heap[w.heap.size]?=some (.cells c0 132 f0)):=hcell
  obtain⟨p,ao',cap',hp,hr,hwv,hblk,hc0,hc1,hfz,hx⟩:=hrd.view
  clear hwv hx hblk
  cases rst with
  |nil =>
   have hpl:p=l.length:=by
    have:=congrArg List.length hr;simp at this;omega
   have H3:Hid (zes l.length l.length l=some acc):=by rw[Hid.out H1];cases m <;> simp[zes,Hid]
   have hbel:Below w.heap.size w wr:=((Below.refl _ _).alloc (Nat.le_refl _) _).trans (hbut.below (Nat.le_refl _) (by simp))
   subst hpl
   clear hr H1 hcell
   go_wp2
   go_ret2
   exact zra H3 hbel ⟨_,zbe hown (by omega),hlc⟩
  |cons x r0 =>
   have hpl:p < l.length:=by
    rcases Nat.lt_or_ge p l.length with h|h
    ·exact h
    ·rw[List.drop_eq_nil_of_le h] at hr;cases hr
   clear hr
   have hne:x::r0≠[]:=by simp
   obtain⟨m,rfl⟩:∃ m',m=m'+1:=⟨m - 1,by simp at hm;omega⟩
   generalize x::r0=rst at *
   have HN:Hid (rst.length<=l.length):=by unfold Hid;omega
   cases hC:ze2 l.length rst with
   |none =>
    have HC:Hid (ze2 l.length rst=none):=hC
    have H3:Hid (zes l.length l.length l=none):=by rw[Hid.out H1,zxg hne hC];simp[Hid]
    clear hC hne H1
    go_wp2_with (first|(go_at_call 61;refine(z0q _ w.heap.size _ l rst hrd hl l.length HN HC).mono ?_;rintro e w1 ⟨rfl,hbut1⟩;have hB1:=hbut.trans hbut1;have hz1:=hB1.size;have hbel1:Below w.heap.size w w1:=((Below.refl _ _).alloc (Nat.le_refl _) _).trans (hB1.below (Nat.le_refl _) (by simp))))
    go_ret2
    have hzb1:=hbel1.size
    exact ztu H3 (by go_grown)
   |some z =>
    obtain⟨c,r2⟩:=z
    have HC:Hid (ze2 l.length rst=some (c,r2)):=hC
    have hll:=zvu hC
    have H3:Hid (zes l.length l.length l=(zes l.length m r2).map ((acc++[c])++·)):=by rw[Hid.out H1,ztr hne hC,zxa];rfl
    clear hC hne H1
    go_wp2_with (first|(go_at_call 61;refine(zyb _ w.heap.size _ l rst r2 c hrd hl l.length HN HC).mono ?_;rintro e w1 ⟨va,vb,rfl,hs1,hl1,hr1,hbut1⟩;obtain⟨aoa,cpa,rfl⟩:=hs1.shape;obtain⟨aob,cpb,rfl⟩:=hl1.shape;have hB1:=hbut.trans hbut1;have hz1:=hB1.size;have hzz:w.heap.size+1<=w1.heap.size:=(by simpa using hz1);have ho1:=zb8 hown hbut1 hcell (by decide);have hlc1:=hlc.mono (fun _ _ k=>k.but hbut1 hcell (by decide)) (fun _ _ k=>k.but hbut1 hcell (by decide) (by decide)))|(at_builtin;refine zgy w1 _ _ _ rfl (.tmp 22) (.tmp 24) 78 rfl (w.heap.size+1) 90 i0 _ 4 72 Tryz.underlying78 hi hz0 hzs hzb rfl (by decide) _ _ _ rfl ho1 ((Below.refl _ _).alloc (Nat.le_refl _) _) _ _ rfl (by simp) rfl (by simp[Value.oneCell']) (by omega) (by omega) hzz ?_;intro v' w2 ho2 hB2 hc2 hf2 hk2 hz2';clear hc2 hf2;have hrd2:=Rd.keep h0 hr1 (by simpa using hB2);have hbut2:=hB1.onto (by simpa using hB2);have hs2:SIn w.heap.size w2 (Value.slice aoa c.head.args.length cpa) c.head.args:=zbe (zi7 ho1 (by decide) hs1 hk2) hwr;have hl2:=(hl1.push ho1 (by decide) (by decide) hk2).low hwr;have hlc2:=hlc1.mono (fun _ _ k=>zi7 ho1 (by decide) k hk2) (fun _ _ k=>k.push ho1 (by decide) (by decide) hk2)))
    go_roundg r2.length
    case measure=>omega
    case rel=>exact⟨acc++[c],r2,m,_,Nat.le_refl _,by omega,by simp;omega,by rw[List.length_append];exact ho2,hlc2.snoc hs2 hl2,hrd2,hbut2,H3⟩
theorem zbs(t:ByteArray)(w:World) :
  Calls Tryz.prog 98 #[.string t] w fun e w'=>e=.returned (.bool (za6 t))/\w'=w:=by
 unfold za6
 by_cases h:0 < t.size
 ·rw[zr5 h]
  go_enter Tryz.func98,Tryz.ntmps98
  go_wp2
  all_goals go_ret
  all_goals go_light
  all_goals exact⟨by simp_all [z6j];try omega,rfl⟩
 ·rw[z0j h]
  go_enter Tryz.func98,Tryz.ntmps98
  go_wp2
  all_goals go_ret
  all_goals go_light
  all_goals exact⟨by simp_all [z6j],rfl⟩
theorem SIn.cell{w:World}{ao:Option Addr}{n cap:Nat}{vs:List ByteArray}(h:SIn lo w (.slice ao n cap) vs)(k:Nat)(hk:k < vs.length):∃ g,ao=some ⟨g,0,none⟩/\g < w.heap.size/\w.cell? ⟨g,k,none⟩=some (.string vs[k]):=by
 have ho:=h
 obtain⟨g,cap',hv,_,hg,hcl⟩:=zas ho (by omega)
 simp at hv
 exact⟨g,hv.1,hg,hcl k _ (by simp[hk])⟩
def zbf:List ByteArray->ByteArray->Option Nat
 |[],_=>none
 |y::r,n=>if y=n then some 0 else(zbf r n).map (·+1)
theorem ziy:∀ {l:List ByteArray} {n:ByteArray} {k:Nat},zbf l n=some k->∃ h:k < l.length,l[k]=n
 |[],_,_,h=>by simp[zbf] at h
 |y::r,n,k,h=>by
  unfold zbf at h
  split at h
  ·simp at h;subst h;exact⟨by simp,by simpa⟩
  ·cases hq:zbf r n with
   |none=>rw[hq] at h;simp at h
   |some j=>rw[hq] at h;simp at h;subst h;obtain⟨h1,h2⟩:=ziy hq;exact⟨by simpa using h1,by simpa using h2⟩
theorem zn9{l:List ByteArray}{n:ByteArray}{k:Nat}(hk:k < l.length)(hne:l[k]≠n):zbf (l.drop k) n=(zbf (l.drop (k+1)) n).map (·+1):=by rw[List.drop_eq_getElem_cons hk,zbf,if_neg hne]
theorem zn8{l:List ByteArray}{n:ByteArray}{k:Nat}(hk:k < l.length)(he:l[k]=n):zbf (l.drop k) n=some 0:=by rw[List.drop_eq_getElem_cons hk,zbf,if_pos he]
theorem zkc:∀(l:List ByteArray) (n:ByteArray),(zbf l n).isSome=zo0 n l
 |[],n=>by rw[zvm.2 (by simp)];rfl
 |y::r,n=>by
  unfold zbf
  by_cases e:y=n
  ·rw[if_pos e,zfy.2 (by simp[e])];rfl
  ·rw[if_neg e,Option.isSome_map,zkc r n]
   cases h:zo0 n r with
   |true=>exact(zfy.2 (List.mem_cons_of_mem _ (zfy.1 h))).symm
   |false=>exact(zvm.2 (by have:=zvm.1 h;simp[this,Ne.symm e])).symm
theorem zzy(w:World)(vb:Nat)(nv:Value)(vs:List ByteArray)(t:ByteArray)(hbox:Box w vb #[nv] 124)(hs:SIn lo w nv vs)(hl:vs.length<=1000) :
  Calls Tryz.prog 128 #[.pointer (some ⟨vb,0,none⟩),.string t] w fun e w'=>e=.returned (.tuple #[.int .i64 ((zbf vs t).getD 0:Nat),.bool (zbf vs t).isSome])/\w'=w:=by
 obtain⟨hc,hf⟩:=hbox.rules
 obtain⟨ao,cap,rfl⟩:=hs.shape
 go_enter Tryz.func128,Tryz.ntmps128
 go_wp2
 go_loop [13] (fun i=>∃ k:Nat,k<=vs.length/\i=.int .i64 k/\Hid (zbf vs t=(zbf (vs.drop k) t).map (·+k))) (fun i=>vs.length - (intOf i).toNat)
 case atStart=>exact⟨0,Nat.zero_le _,rfl,by simp[Hid]⟩
 case round =>
  obtain⟨k,hk,rfl,H⟩:=hrel
  by_cases hlt:k < vs.length
  ·obtain⟨g,rfl,hg,hck⟩:=hs.cell k hlt
   by_cases hx:vs[k]=t
   ·have he:=zf0 hx
    have H2:Hid (zbf vs t=some k):=by rw[Hid,H.out,zn8 hlt hx];simp
    clear hx H
    generalize vs[k]=x at *
    go_wp2
    go_ret2
    exact⟨by rw[H2.out];rfl,rfl⟩
   ·have he:=zfh hx
    have H2:Hid (zbf vs t=(zbf (vs.drop (k+1)) t).map (·+(k+1))):=by
     rw[Hid,H.out,zn9 hlt hx];cases zbf (vs.drop (k+1)) t <;> simp;omega
    clear hx H
    generalize vs[k]=x at *
    go_wp2
    go_round
    case rel=>exact⟨k+1,by omega,by go_num,H2⟩
    case measure=>simp[intOf];omega
  ·have H2:Hid (zbf vs t=none):=by rw[Hid,H.out,List.drop_eq_nil_of_le (by omega)];rfl
   clear H
   go_wp2
   go_ret2
   exact⟨by rw[H2.out];rfl,rfl⟩
theorem zq0(w:World)(vb:Nat)(nv:Value)(vs:List ByteArray)(t:ByteArray)(hbox:Box w vb #[nv] 124)(hs:SIn lo w nv vs)(hl:vs.length<=1000) :
  Calls Tryz.prog 109 #[.pointer (some ⟨vb,0,none⟩),.string t] w fun e w'=>e=.returned (.bool (zo0 t vs))/\w'=w:=by
 rw[← zkc vs t]
 have HP:Hid (Calls Tryz.prog 128 #[.pointer (some ⟨vb,0,none⟩),.string t] w fun e w'=>e=.returned (.tuple #[.int .i64 ((zbf vs t).getD 0:Nat),.bool (zbf vs t).isSome])/\w'=w):=zzy w vb nv vs t hbox hs hl
 generalize zbf vs t=o at *
 go_enter Tryz.func109,Tryz.ntmps109
 go_wp2_with (first|(go_at_call 128;refine HP.out.mono ?_;rintro e w' ⟨rfl,rfl⟩;clear HP))
 go_ret
 exact⟨rfl,rfl⟩
theorem Box.set{w:World}{b:Nat}{c:Array Value}{T:TypeId}(h:Box w b c T)(o:Nat)(u:Value):Box (w.setCell ⟨b,o,none⟩ u) b (c.setIfInBounds o u) T:=by
 unfold Box at *;simp[World.setCell,Array.getElem?_modify,h]
theorem Box.set_ne{w:World}{b b':Nat}{c:Array Value}{T:TypeId}(h:Box w b c T)(hne:b≠b')(o:Nat)(u:Value):Box (w.setCell ⟨b',o,none⟩ u) b c T:=by
 unfold Box at *;rw[Below.heap_setCell _ _ _ _ hne];exact h
theorem Box.push{wO w2:World}{b:Nat}{e T:TypeId}{s:Nat}{v:Value}{n bb:Nat}{xs:List Value}{c:Array Value}(hv:wO.ownsRow b e s v n xs)(hne:e≠T)(h:Box wO bb c T)
  (hk:∀ k,k < wO.heap.size->some k≠v.ownBlock->w2.heap[k]?=wO.heap[k]?):Box w2 bb c T:=by
 have hlt:=h.lt
 unfold Box at *
 rw[hk bb hlt ?_]
 ·exact h
 ·intro he
  obtain⟨_,⟨hv0,_⟩|⟨g',cap',cur',hv',_,hh',_⟩⟩:=hv
  ·subst hv0;cases he
  ·subst hv';simp only[Value.ownBlock,Option.some.injEq] at he;subst he;rw[h] at hh';simp at hh';exact hne hh'.2.symm
structure zot (vb:Nat) (w w':World):Prop where
 size:w.heap.size<=w'.heap.size
 box:∀ b c T,b≠vb->T≠9->Box w b c T->Box w' b c T
theorem zot.trans{vb:Nat}{a b c:World}(h:zot vb a b)(k:zot vb b c):zot vb a c:=⟨Nat.le_trans h.size k.size,fun x y z h1 h2 h3=>k.box x y z h1 h2 (h.box x y z h1 h2 h3)⟩
theorem zot.of{vb:Nat}{w w':World}(h:Below w.heap.size w w'):zot vb w w':=⟨h.size,fun _ _ _ _ _ k=>k.below h⟩
def VA(B:Nat)(w:World)(vb:Nat)(vs:List ByteArray):Prop:=∃ nv,Box w vb #[nv] 124/\w.ownsRow B 9 1 nv vs.length (vs.map Value.string)
theorem VA.below{B:Nat}{w w':World}{vb:Nat}{vs:List ByteArray}(h:VA B w vb vs)(hb:Below w.heap.size w w'):VA B w' vb vs:=by
 obtain⟨nv,h1,h2⟩:=h;exact⟨nv,h1.below hb,zaa h2 hb⟩
theorem zx0(vs args:List ByteArray)(k:Nat)(hk:k < args.length):zew vs (args.take (k+1))=zrq (zew vs (args.take k)) args[k]:=by
 unfold zew;rw[List.take_succ_eq_append_getElem hk,List.foldl_append];rfl
theorem z4b{vs:List ByteArray}{t:ByteArray}(h1:za6 t=true)(h2:zo0 t vs=false):zrq vs t=vs++[t]:=by simp[zrq,h1,h2]
theorem z4a{vs:List ByteArray}{t:ByteArray}(h1:za6 t=false):zrq vs t=vs:=by simp[zrq,h1]
theorem z3y{vs:List ByteArray}{t:ByteArray}(h2:zo0 t vs=true):zrq vs t=vs:=by simp[zrq,h2]
theorem add_any(w0 w:World)(vb:Nat)(vs args:List ByteArray)(neg:Bool)(pred:ByteArray)(va:Value)(h0:Below w0.heap.size w0 w)(hs:SIn lo w0 va args)(hva:VA w0.heap.size w vb vs)(hvb:w0.heap.size<=vb)(hl:vs.length+args.length<=1000) :
  Calls Tryz.prog 83 #[.pointer (some ⟨vb,0,none⟩),.agg #[.bool neg,.string pred,va]] w fun e w'=>e=.returned (.tuple #[])/\VA w0.heap.size w' vb (zew vs args)/\Below w0.heap.size w0 w'/\zot vb w w':=by
 obtain⟨i0,hi,hz0,hzs,hzb⟩:=info_parts Tryz.infoString
 obtain⟨ao,cap,rfl⟩:=hs.shape
 have hsz0:=h0.size
 go_enter Tryz.func83,Tryz.ntmps83
 go_wp2
 go_loopw [9] (fun i wr=>∃ k:Nat,k<=args.length/\i=.int .i64 k/\VA w0.heap.size wr vb (zew vs (args.take k))/\Below w0.heap.size w0 wr/\zot vb w wr) (fun i _=>args.length - (intOf i).toNat)
 case atStart =>
  have hb:=(Below.refl w.heap.size w).alloc (Nat.le_refl _) (.cells #[.bool neg,.string pred,.slice ao args.length cap] 45)
  exact⟨0,Nat.zero_le _,rfl,hva.below hb,zae h0 hb (Nat.le_refl _),zot.of hb⟩
 case round =>
  obtain⟨k,hk,rfl,hvk,hbk,hkk⟩:=hrel
  by_cases hlt:k < args.length
  ·obtain⟨g,rfl,hg,hck⟩:=(hs.below hbk).cell k hlt
   have hsn:=zx0 vs args k hlt
   have hlen:=zkk (args.take k) vs
   have htk:(args.take k).length=k:=by simp;omega
   rw[htk] at hlen
   clear htk
   generalize args[k]=t at *
   generalize zew vs (args.take k)=vk at *
   have HS:Hid (zew vs (args.take (k+1))=zrq vk t):=hsn
   clear hsn
   cases hT:za6 t with
   |false =>
    have hR:zew vs (args.take (k+1))=vk:=by rw[HS.out,z4a hT]
    have HR:Hid (zew vs (args.take (k+1))=vk):=hR
    clear hR HS
    go_wp2_with (go_at_call 98;refine(zbs _ _).mono ?_;rintro e w' ⟨rfl,rfl⟩)
    go_roundw
    case rel=>exact⟨k+1,by omega,by go_num,by rw[HR.out];exact hvk,hbk,hkk⟩
    case measure=>simp[intOf];omega
   |true =>
    obtain⟨nv,hbx,hown⟩:=hvk
    obtain⟨ao2,cap2,rfl⟩:=zac hown
    obtain⟨hc,hf⟩:=hbx.rules
    cases hM:zo0 t vk with
    |true =>
     have hR:zew vs (args.take (k+1))=vk:=by rw[HS.out,z3y hM]
     have HR:Hid (zew vs (args.take (k+1))=vk):=hR
     clear hR HS
     go_wp2_with (first|(go_at_call 98;refine(zbs _ _).mono ?_;rintro e w' ⟨rfl,rfl⟩)|(go_at_call 109;refine(zq0 _ vb _ vk t hbx hown (by omega)).mono ?_;rintro e w' ⟨rfl,rfl⟩))
     go_roundw
     case rel=>exact⟨k+1,by omega,by go_num,by rw[HR.out];exact⟨_,hbx,hown⟩,hbk,hkk⟩
     case measure=>simp[intOf];omega
    |false =>
     have hR:zew vs (args.take (k+1))=vk++[t]:=by rw[HS.out,z4b hT hM]
     have HR:Hid (zew vs (args.take (k+1))=vk++[t]):=hR
     clear hR HS
     go_wp2_with (first|(go_at_call 98;refine(zbs _ _).mono ?_;rintro e w' ⟨rfl,rfl⟩)|(go_at_call 109;refine(zq0 _ vb _ vk t hbx hown (by omega)).mono ?_;rintro e w' ⟨rfl,rfl⟩)|(at_builtin;refine zgy _ _ _ _ rfl (.tmp 25) (.tmp 27) 38 rfl w0.heap.size 9 i0 _ 1 16 Tryz.underlying38 hi hz0 hzs hzb rfl (by decide) _ _ _ rfl hown (Below.refl _ _) _ _ rfl (by simp) rfl (by simp[Value.oneCell']) (by omega) (by omega) hbk.size ?_;intro v' w2 ho2 hB2 hc2 hf2 hk2 hz2';clear hc2 hf2;obtain⟨ao3,cap3,rfl⟩:=zac ho2;have hbx2:=Box.push hown (by decide) hbx hk2;obtain⟨hc3,hf3⟩:=hbx2.rules))
     have hkb:zot vb w' (w2.setCell ⟨vb,0,none⟩ (.slice ao3 (vk.length+1) cap3)):=⟨by simp[World.setCell];exact hz2',fun b c T h1 h2 h3=>(Box.push hown (Ne.symm h2) h3 hk2).set_ne h1 _ _⟩
     have hva2:VA w0.heap.size (w2.setCell ⟨vb,0,none⟩ (.slice ao3 (vk.length+1) cap3)) vb (vk++[t]):=⟨_,hbx2.set 0 _,by
      have:=zb8 ho2 ((But.refl vb w2).setCell 0 (.slice ao3 (vk.length+1) cap3)) hbx2 (by decide)
      simpa using this⟩
     go_roundw
     case rel=>exact⟨k+1,by omega,by go_num,by rw[HR.out];exact hva2,(hbk.trans hB2).setCell hvb _,hkk.trans hkb⟩
     case measure=>simp[intOf];omega
  ·have hE:args.take k=args:=List.take_of_length_le (by omega)
   rw[hE] at hvk
   clear hE
   go_wp2
   go_end0
   exact⟨rfl,hvk,hbk,hkk⟩
theorem LIn.cell{w:World}{ao:Option Addr}{n cap:Nat}{ls:List zbz}(h:LIn lo w (.slice ao n cap) ls)(k:Nat)(hk:k < ls.length):∃ g ao2 cap2,ao=some ⟨g,0,none⟩/\g < w.heap.size ∧
  w.cell? ⟨g,k * 3,none⟩=some (.bool ls[k].neg)/\w.cell? ⟨g,k * 3+1,none⟩=some (.string ls[k].pred)/\w.cell? ⟨g,k * 3+2,none⟩=some (.slice ao2 ls[k].args.length cap2)/\SIn lo w (.slice ao2 ls[k].args.length cap2) ls[k].args:=by
 obtain⟨xs,ho,hc⟩:=h
 obtain⟨g,cap',hv,_,hg,hcl⟩:=zas ho (by omega)
 simp at hv
 obtain⟨va,a1,a2,a3,a4⟩:=hc.at k ls[k] (by simp[hk])
 obtain⟨ao2,cap2,rfl⟩:=a4.shape
 exact⟨g,ao2,cap2,hv.1,hg,hcl _ _ a1,hcl _ _ a2,hcl _ _ a3,a4⟩
def zj6(vs:List ByteArray)(l:zbz):List ByteArray:=zew vs l.args
def zen(vs:List ByteArray)(l:zbz):List ByteArray:=if l.neg then vs else zew vs l.args
def zjy(c:zab):List ByteArray:=c.body.foldl zj6 (zew [] c.head.args)
def zaf(c:zab):List ByteArray:=c.body.foldl zen []
def zce(ls:List zbz):Nat:=ls.foldr (fun l n=>l.args.length+n) 0
theorem zg6(ls:List zbz):∀ k,k < ls.length->zce (ls.take k)+(ls[k]?.map (·.args.length)).getD 0<=zce ls:=by
 induction ls with
 |nil=>intro k h;simp at h
 |cons a ls ih =>
  intro k h
  cases k with
  |zero=>simp[zce]
  |succ k=>have:=ih k (by simpa using h);simp[zce] at this ⊢;omega
theorem z1u(ls:List zbz):∀ vs:List ByteArray,(ls.foldl zj6 vs).length<=vs.length+zce ls:=by
 induction ls with
 |nil=>intro vs;simp[zce]
 |cons a ls ih=>intro vs;have:=ih (zj6 vs a);have:=zkk a.args vs;simp[zce,zj6] at *;omega
theorem zi8(ls:List zbz):∀ vs:List ByteArray,(ls.foldl zen vs).length<=vs.length+zce ls:=by
 induction ls with
 |nil=>intro vs;simp[zce]
 |cons a ls ih =>
  intro vs
  have h1:=ih (zen vs a)
  have h2:=zkk a.args vs
  have h3:(zen vs a).length<=vs.length+a.args.length:=by unfold zen;split <;> omega
  simp[zce] at *;omega
theorem z6t(w:World)(c:zab)(va vb:Value)(hs:SIn lo w va c.head.args)(hb:LIn lo w vb c.body)(hl:c.head.args.length+zce c.body<=1000)(hl2:c.body.length<=1000) :
  Calls Tryz.prog 91 #[.agg #[.bool c.head.neg,.string c.head.pred,va,vb]] w fun e w'=>∃ nv,e=.returned (.agg #[nv])/\w'.ownsRow w.heap.size 9 1 nv (zjy c).length ((zjy c).map Value.string)/\Below w.heap.size w w':=by
 obtain⟨ao,cap,rfl⟩:=hs.shape
 obtain⟨aob,capb,rfl⟩:=hb.shape
 have hb0:Below w.heap.size w (((w.alloc (.cells #[.bool c.head.neg,.string c.head.pred,.slice ao c.head.args.length cap,.slice aob c.body.length capb] 90)).alloc (.cells #[.slice none 0 0] 124)).alloc (.cells #[.slice none 0 0] 124)):=(by go_grown)
 have hva0:VA w.heap.size (((w.alloc (.cells #[.bool c.head.neg,.string c.head.pred,.slice ao c.head.args.length cap,.slice aob c.body.length capb] 90)).alloc (.cells #[.slice none 0 0] 124)).alloc (.cells #[.slice none 0 0] 124)) (w.heap.size+2) []:=⟨_,by have:=Box.new ((w.alloc (.cells #[.bool c.head.neg,.string c.head.pred,.slice ao c.head.args.length cap,.slice aob c.body.length capb] 90)).alloc (.cells #[.slice none 0 0] 124)) #[.slice none 0 0] 124;simpa using this,World.ownsRow_nil _ _ _ _⟩
 have hres0:Box (((w.alloc (.cells #[.bool c.head.neg,.string c.head.pred,.slice ao c.head.args.length cap,.slice aob c.body.length capb] 90)).alloc (.cells #[.slice none 0 0] 124)).alloc (.cells #[.slice none 0 0] 124)) (w.heap.size+1) #[.slice none 0 0] 124:=by have:=(Box.new (w.alloc (.cells #[.bool c.head.neg,.string c.head.pred,.slice ao c.head.args.length cap,.slice aob c.body.length capb] 90)) #[.slice none 0 0] 124).below ((Below.refl _ _).alloc (Nat.le_refl _) (.cells #[.slice none 0 0] 124));simpa using this
 have hbx0:Box (((w.alloc (.cells #[.bool c.head.neg,.string c.head.pred,.slice ao c.head.args.length cap,.slice aob c.body.length capb] 90)).alloc (.cells #[.slice none 0 0] 124)).alloc (.cells #[.slice none 0 0] 124)) w.heap.size #[.bool c.head.neg,.string c.head.pred,.slice ao c.head.args.length cap,.slice aob c.body.length capb] 90:=((Box.new w _ _).below ((Below.refl _ _).alloc (Nat.le_refl _) _)).below ((Below.refl _ _).alloc (Nat.le_refl _) _)
 go_enter Tryz.func91,Tryz.ntmps91
 go_wp2_with (first|(go_at_call 83;refine(add_any w _ (w.heap.size+2) [] c.head.args _ _ _ (by exact hb0) hs (by exact hva0) (by omega) (by simp;omega)).mono ?_;rintro e w1 ⟨rfl,hva1,hb1,hk1⟩;have hres1:=hk1.box _ _ _ (by omega) (by decide) hres0;have hbx1:=hk1.box _ _ _ (by omega) (by decide) hbx0;obtain⟨hbc,hbf⟩:=hbx1.rules;have hsz1:=hbx1.lt))
 go_loopw [12] (fun i wr=>∃ k:Nat,k<=c.body.length/\i=.int .i64 k/\VA w.heap.size wr (w.heap.size+2) ((c.body.take k).foldl zj6 (zew [] c.head.args))/\Below w.heap.size w wr/\Box wr (w.heap.size+1) #[.slice none 0 0] 124) (fun i _=>c.body.length - (intOf i).toNat)
 case atStart=>exact⟨0,Nat.zero_le _,rfl,hva1,hb1,hres1⟩
 case round =>
  obtain⟨k,hk,rfl,hvk,hbk,hrk⟩:=hrel
  have hszk:=hbk.size
  by_cases hlt:k < c.body.length
  ·obtain⟨g,ao2,cap2,rfl,hg,hc0,hc1,hc2,hsk⟩:=hb.cell k hlt
   have hd0:=(hbk.cell (p:=⟨g,k * 3,none⟩) hg).trans hc0
   have hd1:=(hbk.cell (p:=⟨g,k * 3+1,none⟩) hg).trans hc1
   have hd2:=(hbk.cell (p:=⟨g,k * 3+2,none⟩) hg).trans hc2
   have hgr:g < wr.heap.size:=by omega
   have hlen:=z1u (c.body.take k) (zew [] c.head.args)
   have hst:=zg6 c.body k hlt
   have hlen0:=zkk c.head.args []
   have hsn:(c.body.take (k+1)).foldl zj6 (zew [] c.head.args)=zj6 ((c.body.take k).foldl zj6 (zew [] c.head.args)) c.body[k]:=by rw[List.take_succ_eq_append_getElem hlt,List.foldl_append];rfl
   rw[List.getElem?_eq_getElem hlt] at hst
   simp only[Option.map_some,Option.getD_some] at hst
   clear hc0 hc1 hc2
   generalize c.body[k]=a at *
   generalize (c.body.take k).foldl zj6 (zew [] c.head.args)=vk at *
   have HS:Hid ((c.body.take (k+1)).foldl zj6 (zew [] c.head.args)=zj6 vk a):=hsn
   clear hsn
   go_wp2_with (first|(go_at_call 83;refine(add_any w _ (w.heap.size+2) vk a.args _ _ _ (by exact(by go_grown)) hsk (by exact hvk.below (by go_grown)) (by omega) (by simp at *;omega)).mono ?_;rintro e w1 ⟨rfl,hva1,hb1,hk1⟩;have hres1:=hk1.box _ _ _ (by omega) (by decide) (hrk.below (by go_grown))))
   go_roundw
   case rel=>exact⟨k+1,by omega,by go_num,by rw[HS.out];exact hva1,hb1,hres1⟩
   case measure=>simp[intOf];omega
  ·have hE:c.body.take k=c.body:=List.take_of_length_le (by omega)
   rw[hE] at hvk
   obtain⟨nv,hbx,hown⟩:=hvk
   obtain⟨ao3,cap3,rfl⟩:=zac hown
   obtain⟨hc,hf⟩:=hbx.rules
   obtain⟨hc2,hf2⟩:=hrk.rules
   have hz1:=hbx.lt
   clear hE
   go_wp2
   have ho2:=zb8 hown ((But.refl (w.heap.size+1) wr).setCell 0 (.slice ao3 (c.body.foldl zj6 (zew [] c.head.args)).length cap3)) hrk (by decide)
   exact bodyPost_ret (v:=.agg #[.slice ao3 (c.body.foldl zj6 (zew [] c.head.args)).length cap3]) (by simp[results,Tryz.results91,go_sem,hc2]) rfl ⟨_,rfl,ho2,(by go_grown)⟩
theorem zob(w:World)(c:zab)(va vb:Value)(hs:SIn lo w va c.head.args)(hb:LIn lo w vb c.body)(hl:c.head.args.length+zce c.body<=1000)(hl2:c.body.length<=1000) :
  Calls Tryz.prog 57 #[.agg #[.bool c.head.neg,.string c.head.pred,va,vb]] w fun e w'=>∃ nv,e=.returned (.agg #[nv])/\w'.ownsRow w.heap.size 9 1 nv (zaf c).length ((zaf c).map Value.string)/\Below w.heap.size w w':=by
 obtain⟨ao,cap,rfl⟩:=hs.shape
 obtain⟨aob,capb,rfl⟩:=hb.shape
 have hb0:Below w.heap.size w (((w.alloc (.cells #[.bool c.head.neg,.string c.head.pred,.slice ao c.head.args.length cap,.slice aob c.body.length capb] 90)).alloc (.cells #[.slice none 0 0] 124)).alloc (.cells #[.slice none 0 0] 124)):=(by go_grown)
 have hva0:VA w.heap.size (((w.alloc (.cells #[.bool c.head.neg,.string c.head.pred,.slice ao c.head.args.length cap,.slice aob c.body.length capb] 90)).alloc (.cells #[.slice none 0 0] 124)).alloc (.cells #[.slice none 0 0] 124)) (w.heap.size+2) []:=⟨_,by have:=Box.new ((w.alloc (.cells #[.bool c.head.neg,.string c.head.pred,.slice ao c.head.args.length cap,.slice aob c.body.length capb] 90)).alloc (.cells #[.slice none 0 0] 124)) #[.slice none 0 0] 124;simpa using this,World.ownsRow_nil _ _ _ _⟩
 have hres0:Box (((w.alloc (.cells #[.bool c.head.neg,.string c.head.pred,.slice ao c.head.args.length cap,.slice aob c.body.length capb] 90)).alloc (.cells #[.slice none 0 0] 124)).alloc (.cells #[.slice none 0 0] 124)) (w.heap.size+1) #[.slice none 0 0] 124:=by have:=(Box.new (w.alloc (.cells #[.bool c.head.neg,.string c.head.pred,.slice ao c.head.args.length cap,.slice aob c.body.length capb] 90)) #[.slice none 0 0] 124).below ((Below.refl _ _).alloc (Nat.le_refl _) (.cells #[.slice none 0 0] 124));simpa using this
 have hbx0:Box (((w.alloc (.cells #[.bool c.head.neg,.string c.head.pred,.slice ao c.head.args.length cap,.slice aob c.body.length capb] 90)).alloc (.cells #[.slice none 0 0] 124)).alloc (.cells #[.slice none 0 0] 124)) w.heap.size #[.bool c.head.neg,.string c.head.pred,.slice ao c.head.args.length cap,.slice aob c.body.length capb] 90:=((Box.new w _ _).below ((Below.refl _ _).alloc (Nat.le_refl _) _)).below ((Below.refl _ _).alloc (Nat.le_refl _) _)
 go_enter Tryz.func57,Tryz.ntmps57
 go_wp2
 go_loopw [9] (fun i wr=>∃ k:Nat,k<=c.body.length/\i=.int .i64 k/\VA w.heap.size wr (w.heap.size+2) ((c.body.take k).foldl zen [])/\Below w.heap.size w wr/\Box wr (w.heap.size+1) #[.slice none 0 0] 124) (fun i _=>c.body.length - (intOf i).toNat)
 case atStart=>exact⟨0,Nat.zero_le _,rfl,hva0,hb0,hres0⟩
 case round =>
  obtain⟨k,hk,rfl,hvk,hbk,hrk⟩:=hrel
  have hszk:=hbk.size
  by_cases hlt:k < c.body.length
  ·obtain⟨g,ao2,cap2,rfl,hg,hc0,hc1,hc2,hsk⟩:=hb.cell k hlt
   have hd0:=(hbk.cell (p:=⟨g,k * 3,none⟩) hg).trans hc0
   have hd1:=(hbk.cell (p:=⟨g,k * 3+1,none⟩) hg).trans hc1
   have hd2:=(hbk.cell (p:=⟨g,k * 3+2,none⟩) hg).trans hc2
   have hgr:g < wr.heap.size:=by omega
   have hlen:=zi8 (c.body.take k) []
   have hst:=zg6 c.body k hlt
   have hlen0:True:=trivial
   have hsn:(c.body.take (k+1)).foldl zen []=zen ((c.body.take k).foldl zen []) c.body[k]:=by rw[List.take_succ_eq_append_getElem hlt,List.foldl_append];rfl
   rw[List.getElem?_eq_getElem hlt] at hst
   simp only[Option.map_some,Option.getD_some] at hst
   clear hc0 hc1 hc2
   generalize c.body[k]=a at *
   generalize (c.body.take k).foldl zen []=vk at *
   have HS:Hid ((c.body.take (k+1)).foldl zen []=zen vk a):=hsn
   clear hsn
   cases hN:a.neg with
   |true =>
    rw[hN] at hd0
    have HR:Hid ((c.body.take (k+1)).foldl zen []=vk):=by rw[Hid,HS.out,zen,hN,if_pos rfl]
    clear HS hN
    go_wp2
    go_roundw
    case rel=>exact⟨k+1,by omega,by go_num,by rw[HR.out];exact hvk.below (by go_grown),(by go_grown),hrk.below (by go_grown)⟩
    case measure=>simp[intOf];omega
   |false =>
    rw[hN] at hd0
    have HR:Hid ((c.body.take (k+1)).foldl zen []=zew vk a.args):=by rw[Hid,HS.out,zen,hN];rfl
    clear HS hN
    go_wp2_with (first|(go_at_call 83;refine(add_any w _ (w.heap.size+2) vk a.args _ _ _ (by exact(by go_grown)) hsk (by exact hvk.below (by go_grown)) (by omega) (by simp at *;omega)).mono ?_;rintro e w1 ⟨rfl,hva1,hb1,hk1⟩;have hres1:=hk1.box _ _ _ (by omega) (by decide) (hrk.below (by go_grown))))
    go_roundw
    case rel=>exact⟨k+1,by omega,by go_num,by rw[HR.out];exact hva1,hb1,hres1⟩
    case measure=>simp[intOf];omega
  ·have hE:c.body.take k=c.body:=List.take_of_length_le (by omega)
   rw[hE] at hvk
   obtain⟨nv,hbx,hown⟩:=hvk
   obtain⟨ao3,cap3,rfl⟩:=zac hown
   obtain⟨hc,hf⟩:=hbx.rules
   obtain⟨hc2,hf2⟩:=hrk.rules
   have hz1:=hbx.lt
   clear hE
   go_wp2
   have ho2:=zb8 hown ((But.refl (w.heap.size+1) wr).setCell 0 (.slice ao3 (c.body.foldl zen []).length cap3)) hrk (by decide)
   exact bodyPost_ret (v:=.agg #[.slice ao3 (c.body.foldl zen []).length cap3]) (by simp[results,Tryz.results57,go_sem,hc2]) rfl ⟨_,rfl,ho2,(by go_grown)⟩
end Go.Proofs.YteampbddflhngabGreat
