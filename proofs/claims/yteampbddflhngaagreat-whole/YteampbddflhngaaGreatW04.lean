import Derived.Test.YteampbddflhngaaGreatW03

namespace Go.Proofs.YteampbddflhngaaGreat
set_option maxRecDepth 100000
set_option maxHeartbeats 1000000
open Go.RowKit
variable {lo:Nat}
variable {w:World}{v:Value}{r:List Tok}{o:Option (List zab)}
def zdr(lo:Nat)(w:World):List zab->List Value->Prop
 |[],xs=>xs=[]
 |c::cs,xs=>∃ va vb r,xs=.bool c.head.neg::.string c.head.pred::va::vb::r/\SIn lo w va c.head.args/\LIn lo w vb c.body/\zdr lo w cs r
theorem zdr.snoc{w:World}{c:zab}{va vb:Value}(hs:SIn lo w va c.head.args)(hb:LIn lo w vb c.body):∀ {ls:List zab} {xs:List Value},zdr lo w ls xs->zdr lo w (ls++[c]) (xs++[.bool c.head.neg,.string c.head.pred,va,vb])
 |[],_,h=>by simp only[zdr] at h;subst h;exact⟨va,vb,[],rfl,hs,hb,rfl⟩
 |_::ls,_,h=>by obtain⟨v,v2,r,rfl,h1,h2,h3⟩:=h;exact⟨v,v2,r++[.bool c.head.neg,.string c.head.pred,va,vb],rfl,h1,h2,zdr.snoc hs hb h3⟩
theorem zdr.mono{w w':World}(hm:∀ va l,SIn lo w va l->SIn lo w' va l)(hm2:∀ va l,LIn lo w va l->LIn lo w' va l):∀ {ls:List zab} {xs:List Value},zdr lo w ls xs->zdr lo w' ls xs
 |[],_,h=>h
 |_::ls,_,h=>by obtain⟨v,v2,r,rfl,h1,h2,h3⟩:=h;exact⟨v,v2,r,rfl,hm _ _ h1,hm2 _ _ h2,zdr.mono hm hm2 h3⟩
theorem zdr.at{w:World}:∀ {ls:List zab} {xs:List Value} (i:Nat) (c:zab),zdr lo w ls xs->ls[i]?=some c →
  ∃ va vb,xs[i * 4]?=some (.bool c.head.neg)/\xs[i * 4+1]?=some (.string c.head.pred)/\xs[i * 4+2]?=some va/\xs[i * 4+3]?=some vb/\SIn lo w va c.head.args/\LIn lo w vb c.body
 |[],_,i,a,_,hi=>by simp at hi
 |_::ls,_,0,a,h,hi=>by obtain⟨v,v2,r,rfl,h1,h2,h3⟩:=h;simp at hi;subst hi;exact⟨v,v2,rfl,rfl,rfl,rfl,h1,h2⟩
 |_::ls,_,i+1,a,h,hi=>by
  obtain⟨v,v2,r,rfl,h1,h2,h3⟩:=h
  obtain⟨va,vb,a1,a2,a3,a4,a5⟩:=zdr.at i a h3 (by simpa using hi)
  refine⟨va,vb,?_,?_,?_,?_,a5⟩
  ·rw[show(i+1) * 4=i * 4+1+1+1+1 from by omega];simpa using a1
  ·rw[show(i+1) * 4+1=i * 4+1+1+1+1+1 from by omega];simpa using a2
  ·rw[show(i+1) * 4+2=i * 4+2+1+1+1+1 from by omega];simpa using a3
  ·rw[show(i+1) * 4+3=i * 4+3+1+1+1+1 from by omega];simpa using a4
def CIn(lo:Nat)(T:TypeId)(w:World)(v:Value)(ls:List zab):Prop:=∃ xs,w.ownsRow lo T 4 v ls.length xs/\zdr lo w ls xs
theorem zdr.low{a b:Nat}{w:World}(hab:a<=b):∀ {ls:List zab} {xs:List Value},zdr b w ls xs->zdr a w ls xs
 |[],_,h=>h
 |_::ls,_,h=>by obtain⟨v,v2,r,rfl,h1,h2,h3⟩:=h;exact⟨v,v2,r,rfl,h1.low hab,h2.low hab,zdr.low hab h3⟩
theorem CIn.low{a b:Nat}{T:TypeId}{w:World}{v:Value}{l:List zab}(h:CIn b T w v l)(hab:a<=b):CIn a T w v l:=by obtain⟨xs,h,hc⟩:=h;exact⟨xs,zbf h hab,hc.low hab⟩
theorem CIn.shape{T:TypeId}{l:List zab}(h:CIn lo T w v l):∃ ao cap,v=.slice ao l.length cap:=by obtain⟨xs,h,_⟩:=h;exact zac h
theorem CIn.below{T:TypeId}{w w':World}{v:Value}{l:List zab}(h:CIn lo T w v l)(hb:Below w.heap.size w w'):CIn lo T w' v l:=by
 obtain⟨xs,h,hc⟩:=h;exact⟨xs,zaa h hb,hc.mono (fun _ _ k=>k.below hb) (fun _ _ k=>k.below hb)⟩
theorem LIn.push{wO w2:World}{b:Nat}{e:TypeId}{s:Nat}{v2:Value}{n:Nat}{xs:List Value}{ls:List zbu}(hv:wO.ownsRow b e s v n xs)(hne:e≠90)(hne2:e≠9)(h:LIn lo wO v2 ls)
  (hk:∀ k,k < wO.heap.size->some k≠v.ownBlock->w2.heap[k]?=wO.heap[k]?):LIn lo w2 v2 ls:=by
 obtain⟨xs2,h1,h2⟩:=h
 exact⟨xs2,zjg hv hne h1 hk,h2.mono fun _ _ k=>zjg hv hne2 k hk⟩
def zew(n0:Nat):Nat->List Tok->Option (List zab)
 |_,[]=>some []
 |0,_::_=>none
 |m+1,x::r=>match ze5 n0 (x::r) with
  |none=>none
  |some (c,r2)=>(zew n0 m r2).map (c::·)
theorem zx6{n0 m:Nat}(hr:r≠[])(h:ze5 n0 r=none):zew n0 (m+1) r=none:=by
 cases r with
 |nil=>exact absurd rfl hr
 |cons x r=>simp[zew,h]
theorem zug{n0 m:Nat}{r2:List Tok}{c:zab}(hr:r≠[])(h:ze5 n0 r=some (c,r2)):zew n0 (m+1) r=(zew n0 m r2).map (c::·):=by
 cases r with
 |nil=>exact absurd rfl hr
 |cons x r=>simp[zew,h]
theorem z3m{n:Nat}:∀ {r r2:List Tok} {b:List zbu},ze4 n r=some (b,r2)->r2.length < r.length:=by
 induction n with
 |zero=>intro r r2 b h;simp[ze4] at h
 |succ n ih =>
  intro r r2 b h
  cases hl:zsf r with
  |none=>rw[zrz hl] at h;cases h
  |some z =>
   obtain⟨a,r3⟩:=z
   have:=zx5 hl
   by_cases h6:hdK r3=6
   ·rw[zmd hl h6] at h
    cases hq:ze4 n r3.tail with
    |none=>rw[hq] at h;simp at h
    |some z =>
     rw[hq] at h;simp at h
     have:=ih hq
     obtain⟨_,rfl⟩:=h;simp at this;omega
   ·rw[zme hl h6] at h;simp at h;obtain⟨_,rfl⟩:=h;omega
theorem zwi{n:Nat}{r2:List Tok}{c:zab}(h:ze5 n r=some (c,r2)):r2.length < r.length:=by
 unfold ze5 at h
 split at h
 ·cases h
 ·rename_i a r1 ha
  have:=zlg ha
  split at h
  ·split at h
   ·cases h
   ·rename_i b r3 hb
    have:=z3m hb
    split at h <;> simp at h
    obtain⟨_,rfl⟩:=h;simp at this ⊢;omega
  ·split at h <;> simp at h
   obtain⟨_,rfl⟩:=h;simp;omega
theorem z1j(w:World)(r:Nat)(wv:Value)(l rest:List Tok)(h:Rd w r wv l rest)(hl:l.length<=500)(n0:Nat)(hn0:rest.length<=n0)(hp:ze5 n0 rest=none) :
  Calls Tryz.prog 100 #[.pointer (some ⟨r,0,none⟩)] w fun e w'=>e=.returned (.tuple #[.agg #[.bool false,.string ByteArray.empty,.slice none 0 0,.slice none 0 0],.bool false])/\But r w w':=by
 refine(zpy w r wv l rest h hl n0 hn0).mono ?_
 rintro e w' ⟨h1,h2⟩
 rw[hp] at h2
 exact⟨h2,h1⟩
theorem zy2(w:World)(r:Nat)(wv:Value)(l rest r2:List Tok)(c:zab)(h:Rd w r wv l rest)(hl:l.length<=500)(n0:Nat)(hn0:rest.length<=n0)(hp:ze5 n0 rest=some (c,r2)) :
  Calls Tryz.prog 100 #[.pointer (some ⟨r,0,none⟩)] w fun e w'=>∃ va vb,e=.returned (.tuple #[.agg #[.bool c.head.neg,.string c.head.pred,va,vb],.bool true])/\SIn w.heap.size w' va c.head.args/\LIn w.heap.size w' vb c.body/\Rd w' r wv l r2/\But r w w':=by
 refine(zpy w r wv l rest h hl n0 hn0).mono ?_
 rintro e w' ⟨h1,h2⟩
 rw[hp] at h2
 obtain⟨v,v2,a,b,c,d⟩:=h2
 exact⟨v,v2,a,b,c,d,h1⟩
theorem Tryz.infoClause:(Tryz.prog.info? 171).map (fun i=>(i.zero,i.size,i.bytes))=some (some (.agg #[.bool false,.string ByteArray.empty,.slice none 0 0,.slice none 0 0]),4,72):=by kernel_rfl
def znm(o:Option (List zab))(w:World)(e:Ending)(w':World):Prop :=
 Below w.heap.size w w'/\match o with
  |none=>e=.returned (.tuple #[.slice none 0 0,.bool false])
  |some cs=>∃ v,e=.returned (.tuple #[v,.bool true])/\CIn w.heap.size 171 w' v cs
theorem zuj{w':World}(h:Hid (o=none))(hb:Below w.heap.size w w'):znm o w (.returned (.tuple #[.slice none 0 0,.bool false])) w':=by
 have h':o=none:=h
 subst h';exact⟨hb,rfl⟩
theorem zr0{w':World}{cs:List zab}(h:Hid (o=some cs))(hb:Below w.heap.size w w')(hs:CIn w.heap.size 171 w' v cs):znm o w (.returned (.tuple #[v,.bool true])) w':=by
 have h':o=some cs:=h
 subst h';exact⟨hb,v,rfl,hs⟩
theorem parse_any(w:World)(wv:Value)(l:List Tok)(base:Nat)(hw:w.ownsRow base 182 2 wv l.length (zgi l))(hl:l.length<=500) :
  Calls Tryz.prog 60 #[wv] w fun e w'=>znm (zew l.length l.length l) w e w':=by
 obtain⟨i0,hi,hz0,hzs,hzb⟩:=info_parts Tryz.infoClause
 obtain⟨ao,cap,rfl⟩:=zac hw
 have h0:Rd (w.alloc (.cells #[.slice ao l.length cap,.int .i64 0] 185)) w.heap.size (.slice ao l.length cap) l l :=
  ⟨⟨0,uaj _,rfl,Box.new _ _ _⟩,base,zaa hw ((Below.refl _ _).alloc (uaa _) _)⟩
 clear hw
 go_enter Tryz.func60,Tryz.ntmps60
 go_wp2
 go_loopg [5] (l.length) (fun n v wr=>∃(acc:List zab) (rst:List Tok) (m:Nat) (xs:List Value),rst.length<=n/\rst.length<=m/\rst.length+acc.length<=l.length ∧
   wr.ownsRow (w.heap.size+1) 171 4 v acc.length xs/\zdr w.heap.size wr acc xs/\Rd wr w.heap.size (.slice ao l.length cap) l rst/\But w.heap.size (w.alloc (.cells #[.slice ao l.length cap,.int .i64 0] 185)) wr ∧
   Hid (zew l.length l.length l=(zew l.length m rst).map (acc++·)))
 case atStart=>exact⟨[],l,l.length,[],uaa _,uaa _,by simp,World.ownsRow_nil _ _ _ _,rfl,h0,But.refl _ _,(by simp[Hid])⟩
 case round =>
  obtain⟨acc,rst,m,xs,hn,hm,hra,hown,hlc,hrd,hbut,H1⟩:=hrel
  have hwr:w.heap.size<=wr.heap.size:=by have:=hbut.size;simp at this;omega
  obtain⟨c0,f0,hcell⟩:=hrd.cell
  have HCELL:Hid (wr.heap[w.heap.size]?=some (.cells c0 185 f0)):=hcell
  obtain⟨p,ao',cap',hp,hr,hwv,hblk,hc0,hc1,hfz,hx⟩:=hrd.view
  clear hwv hx hblk
  cases rst with
  |nil =>
   have hpl:p=l.length:=by
    have:=congrArg List.length hr;simp at this;omega
   have H3:Hid (zew l.length l.length l=some acc):=by rw[Hid.out H1];cases m <;> simp[zew,Hid]
   have hbel:Below w.heap.size w wr:=((Below.refl _ _).alloc (uaa _) _).trans (hbut.below (uaa _) (by simp))
   subst hpl
   clear hr H1 hcell
   go_wp2
   go_ret2
   exact zr0 H3 hbel ⟨_,zbf hown (by omega),hlc⟩
  |cons x r0 =>
   have hpl:p < l.length:=by
    rcases Nat.lt_or_ge p l.length with h|h
    ·exact h
    ·rw[uaq h] at hr;cases hr
   clear hr
   have hne:x::r0≠[]:=by simp
   obtain⟨m,rfl⟩:∃ m',m=m'+1:=⟨m - 1,by simp at hm;omega⟩
   generalize x::r0=rst at *
   have HN:Hid (rst.length<=l.length):=by unfold Hid;omega
   cases hC:ze5 l.length rst with
   |none =>
    have HC:Hid (ze5 l.length rst=none):=hC
    have H3:Hid (zew l.length l.length l=none):=by rw[Hid.out H1,zx6 hne hC];simp[Hid]
    clear hC hne H1
    go_wp2_with (first|(go_at_call 100;refine(z1j _ w.heap.size _ l rst hrd hl l.length HN HC).mono ?_;rintro e w1 ⟨rfl,hbut1⟩;have hB1:=hbut.trans hbut1;have hz1:=hB1.size;have hbel1:Below w.heap.size w w1:=((Below.refl _ _).alloc (uaa _) _).trans (hB1.below (uaa _) (by simp))))
    go_ret2
    have hzb1:=hbel1.size
    exact zuj H3 (by go_grown)
   |some z =>
    obtain⟨c,r2⟩:=z
    have HC:Hid (ze5 l.length rst=some (c,r2)):=hC
    have hll:=zwi hC
    have H3:Hid (zew l.length l.length l=(zew l.length m r2).map ((acc++[c])++·)):=by rw[Hid.out H1,zug hne hC,zxz];rfl
    clear hC hne H1
    go_wp2_with (first|(go_at_call 100;refine(zy2 _ w.heap.size _ l rst r2 c hrd hl l.length HN HC).mono ?_;rintro e w1 ⟨va,vb,rfl,hs1,hl1,hr1,hbut1⟩;obtain⟨aoa,cpa,rfl⟩:=hs1.shape;obtain⟨aob,cpb,rfl⟩:=hl1.shape;have hB1:=hbut.trans hbut1;have hz1:=hB1.size;have hzz:w.heap.size+1<=w1.heap.size:=(by simpa using hz1);have ho1:=zb9 hown hbut1 hcell (by decide);have hlc1:=hlc.mono (fun _ _ k=>k.but hbut1 hcell (by decide)) (fun _ _ k=>k.but hbut1 hcell (by decide) (by decide)))|(at_builtin;refine zg3 w1 _ _ _ rfl (.tmp 22) (.tmp 24) 121 rfl (w.heap.size+1) 171 i0 _ 4 72 Tryz.underlying121 hi hz0 hzs hzb rfl (by decide) _ _ _ rfl ho1 ((Below.refl _ _).alloc (uaa _) _) _ _ rfl (by simp) rfl (by simp[Value.oneCell']) (by omega) (by omega) hzz ?_;intro v' w2 ho2 hB2 hc2 hf2 hk2 hz2';clear hc2 hf2;have hrd2:=Rd.keep h0 hr1 (by simpa using hB2);have hbut2:=hB1.onto (by simpa using hB2);have hs2:SIn w.heap.size w2 (Value.slice aoa c.head.args.length cpa) c.head.args:=zbf (zjg ho1 (by decide) hs1 hk2) hwr;have hl2:=(hl1.push ho1 (by decide) (by decide) hk2).low hwr;have hlc2:=hlc1.mono (fun _ _ k=>zjg ho1 (by decide) k hk2) (fun _ _ k=>k.push ho1 (by decide) (by decide) hk2)))
    go_roundg r2.length
    case measure=>omega
    case rel=>exact⟨acc++[c],r2,m,_,uaa _,by omega,by simp;omega,by rw[uar];exact ho2,hlc2.snoc hs2 hl2,hrd2,hbut2,H3⟩
end Go.Proofs.YteampbddflhngaaGreat
namespace Go.Proofs.YteampbddflhngaaGreat
set_option maxRecDepth 100000
set_option maxHeartbeats 1000000
open Go.RowKit
variable {lo:Nat}
variable {l:List ByteArray}
theorem zbw(t:ByteArray)(w:World) :
  Calls Tryz.prog 156 #[.string t] w fun e w'=>e=.returned (.bool (za8 t))/\w'=w:=by
 unfold za8
 by_cases h:0 < t.size
 ·rw[zss h]
  go_enter Tryz.func156,Tryz.ntmps156
  go_wp2
  all_goals go_ret
  all_goals go_light
  all_goals exact⟨by simp_all [z7l];try omega,rfl⟩
 ·rw[z1c h]
  go_enter Tryz.func156,Tryz.ntmps156
  go_wp2
  all_goals go_ret
  all_goals go_light
  all_goals exact⟨by simp_all [z7l],rfl⟩
theorem SIn.cell{w:World}{ao:Option Addr}{n cap:Nat}{vs:List ByteArray}(h:SIn lo w (.slice ao n cap) vs)(k:Nat)(hk:k < vs.length):∃ g,ao=some ⟨g,0,none⟩/\g < w.heap.size/\w.cell? ⟨g,k,none⟩=some (.string vs[k]):=by
 have ho:=h
 obtain⟨g,cap',hv,_,hg,hcl⟩:=zal ho (by omega)
 simp at hv
 exact⟨g,hv.1,hg,hcl k _ (by simp[hk])⟩
def zbi:List ByteArray->ByteArray->Option Nat
 |[],_=>none
 |y::r,n=>if y=n then some 0 else(zbi r n).map (·+1)
theorem zi6:∀ {l:List ByteArray} {n:ByteArray} {k:Nat},zbi l n=some k->∃ h:k < l.length,l[k]=n
 |[],_,_,h=>by simp[zbi] at h
 |y::r,n,k,h=>by
  unfold zbi at h
  split at h
  ·simp at h;subst h;exact⟨by simp,by simpa⟩
  ·cases hq:zbi r n with
   |none=>rw[hq] at h;simp at h
   |some j=>rw[hq] at h;simp at h;subst h;obtain⟨h1,h2⟩:=zi6 hq;exact⟨by simpa using h1,by simpa using h2⟩
theorem zou{n:ByteArray}{k:Nat}(hk:k < l.length)(hne:l[k]≠n):zbi (l.drop k) n=(zbi (l.drop (k+1)) n).map (·+1):=by rw[uah hk,zbi,if_neg hne]
theorem zot{n:ByteArray}{k:Nat}(hk:k < l.length)(he:l[k]=n):zbi (l.drop k) n=some 0:=by rw[uah hk,zbi,if_pos he]
theorem zkl:∀(l:List ByteArray) (n:ByteArray),(zbi l n).isSome=zpl n l
 |[],n=>by rw[zwa.2 (by simp)];rfl
 |y::r,n=>by
  unfold zbi
  by_cases e:y=n
  ·rw[if_pos e,zf4.2 (by simp[e])];rfl
  ·rw[if_neg e,Option.isSome_map,zkl r n]
   cases h:zpl n r with
   |true=>exact(zf4.2 (uct _ (zf4.1 h))).symm
   |false=>exact(zwa.2 (by have:=zwa.1 h;simp[this,Ne.symm e])).symm
theorem z0s(w:World)(vb:Nat)(nv:Value)(vs:List ByteArray)(t:ByteArray)(hbox:Box w vb #[nv] 246)(hs:SIn lo w nv vs)(hl:vs.length<=1000) :
  Calls Tryz.prog 200 #[.pointer (some ⟨vb,0,none⟩),.string t] w fun e w'=>e=.returned (.tuple #[.int .i64 ((zbi vs t).getD 0:Nat),.bool (zbi vs t).isSome])/\w'=w:=by
 obtain⟨hc,hf⟩:=hbox.rules
 obtain⟨ao,cap,rfl⟩:=hs.shape
 go_enter Tryz.func200,Tryz.ntmps200
 go_wp2
 go_loop [13] (fun i=>∃ k:Nat,k<=vs.length/\i=.int .i64 k/\Hid (zbi vs t=(zbi (vs.drop k) t).map (·+k))) (fun i=>vs.length - (intOf i).toNat)
 case atStart=>exact⟨0,uaj _,rfl,by simp[Hid]⟩
 case round =>
  obtain⟨k,hk,rfl,H⟩:=hrel
  by_cases hlt:k < vs.length
  ·obtain⟨g,rfl,hg,hck⟩:=hs.cell k hlt
   by_cases hx:vs[k]=t
   ·have he:=zfm hx
    have H2:Hid (zbi vs t=some k):=by rw[Hid,H.out,zot hlt hx];simp
    clear hx H
    generalize vs[k]=x at *
    go_wp2
    go_ret2
    exact⟨by rw[H2.out];rfl,rfl⟩
   ·have he:=zei hx
    have H2:Hid (zbi vs t=(zbi (vs.drop (k+1)) t).map (·+(k+1))):=by
     rw[Hid,H.out,zou hlt hx];cases zbi (vs.drop (k+1)) t <;> simp;omega
    clear hx H
    generalize vs[k]=x at *
    go_wp2
    go_round
    case rel=>exact⟨k+1,by omega,by go_num,H2⟩
    case measure=>simp[intOf];omega
  ·have H2:Hid (zbi vs t=none):=by rw[Hid,H.out,uaq (by omega)];rfl
   clear H
   go_wp2
   go_ret2
   exact⟨by rw[H2.out];rfl,rfl⟩
theorem zro(w:World)(vb:Nat)(nv:Value)(vs:List ByteArray)(t:ByteArray)(hbox:Box w vb #[nv] 246)(hs:SIn lo w nv vs)(hl:vs.length<=1000) :
  Calls Tryz.prog 183 #[.pointer (some ⟨vb,0,none⟩),.string t] w fun e w'=>e=.returned (.bool (zpl t vs))/\w'=w:=by
 rw[← zkl vs t]
 have HP:Hid (Calls Tryz.prog 200 #[.pointer (some ⟨vb,0,none⟩),.string t] w fun e w'=>e=.returned (.tuple #[.int .i64 ((zbi vs t).getD 0:Nat),.bool (zbi vs t).isSome])/\w'=w):=z0s w vb nv vs t hbox hs hl
 generalize zbi vs t=o at *
 go_enter Tryz.func183,Tryz.ntmps183
 go_wp2_with (first|(go_at_call 200;refine HP.out.mono ?_;rintro e w' ⟨rfl,rfl⟩;clear HP))
 go_ret
 exact⟨rfl,rfl⟩
end Go.Proofs.YteampbddflhngaaGreat
namespace Go.Proofs.YteampbddflhngaaGreat
set_option maxRecDepth 100000
set_option maxHeartbeats 1000000
open Go.RowKit
variable {lo:Nat}
variable {w:World}{c:Array Value}{vs:List ByteArray}{t:ByteArray}
theorem Box.set{b:Nat}{T:TypeId}(h:Box w b c T)(o:Nat)(u:Value):Box (w.setCell ⟨b,o,none⟩ u) b (c.setIfInBounds o u) T:=by
 unfold Box at *;simp[World.setCell,Array.getElem?_modify,h]
theorem Box.set_ne{b b':Nat}{T:TypeId}(h:Box w b c T)(hne:b≠b')(o:Nat)(u:Value):Box (w.setCell ⟨b',o,none⟩ u) b c T:=by
 unfold Box at *;rw[Below.heap_setCell _ _ _ _ hne];exact h
theorem Box.push{wO w2:World}{b:Nat}{e T:TypeId}{s:Nat}{v:Value}{n bb:Nat}{xs:List Value}(hv:wO.ownsRow b e s v n xs)(hne:e≠T)(h:Box wO bb c T)
  (hk:∀ k,k < wO.heap.size->some k≠v.ownBlock->w2.heap[k]?=wO.heap[k]?):Box w2 bb c T:=by
 have hlt:=h.lt
 unfold Box at *
 rw[hk bb hlt ?_]
 ·exact h
 ·intro he
  obtain⟨_,⟨hv0,_⟩|⟨g',cap',cur',hv',_,hh',_⟩⟩:=hv
  ·subst hv0;cases he
  ·subst hv';simp only[Value.ownBlock,uab] at he;subst he;rw[h] at hh';simp at hh';exact hne hh'.2.symm
structure zpe (vb:Nat) (w w':World):Prop where
 size:w.heap.size<=w'.heap.size
 box:∀ b c T,b≠vb->T≠9->Box w b c T->Box w' b c T
theorem zpe.trans{vb:Nat}{a b c:World}(h:zpe vb a b)(k:zpe vb b c):zpe vb a c:=⟨uap h.size k.size,fun x y z h1 h2 h3=>k.box x y z h1 h2 (h.box x y z h1 h2 h3)⟩
theorem zpe.of{vb:Nat}{w':World}(h:Below w.heap.size w w'):zpe vb w w':=⟨h.size,fun _ _ _ _ _ k=>k.below h⟩
def VA(B:Nat)(w:World)(vb:Nat)(vs:List ByteArray):Prop:=∃ nv,Box w vb #[nv] 246/\w.ownsRow B 9 1 nv vs.length (vs.map Value.string)
theorem VA.below{B:Nat}{w w':World}{vb:Nat}{vs:List ByteArray}(h:VA B w vb vs)(hb:Below w.heap.size w w'):VA B w' vb vs:=by
 obtain⟨nv,h1,h2⟩:=h;exact⟨nv,h1.below hb,zaa h2 hb⟩
theorem zyq(vs args:List ByteArray)(k:Nat)(hk:k < args.length):ze0 vs (args.take (k+1))=zsd (ze0 vs (args.take k)) args[k]:=by
 unfold ze0;rw[uae hk,ubj];rfl
theorem z5c(h1:za8 t=true)(h2:zpl t vs=false):zsd vs t=vs++[t]:=by simp[zsd,h1,h2]
theorem z5b(h1:za8 t=false):zsd vs t=vs:=by simp[zsd,h1]
theorem z4z(h2:zpl t vs=true):zsd vs t=vs:=by simp[zsd,h2]
theorem add_any(w0 w:World)(vb:Nat)(vs args:List ByteArray)(neg:Bool)(pred:ByteArray)(va:Value)(h0:Below w0.heap.size w0 w)(hs:SIn lo w0 va args)(hva:VA w0.heap.size w vb vs)(hvb:w0.heap.size<=vb)(hl:vs.length+args.length<=1000) :
  Calls Tryz.prog 182 #[.pointer (some ⟨vb,0,none⟩),.agg #[.bool neg,.string pred,va]] w fun e w'=>e=.returned (.tuple #[])/\VA w0.heap.size w' vb (ze0 vs args)/\Below w0.heap.size w0 w'/\zpe vb w w':=by
 obtain⟨i0,hi,hz0,hzs,hzb⟩:=info_parts Tryz.infoString
 obtain⟨ao,cap,rfl⟩:=hs.shape
 have hsz0:=h0.size
 go_enter Tryz.func182,Tryz.ntmps182
 go_wp2
 go_loopw [9] (fun i wr=>∃ k:Nat,k<=args.length/\i=.int .i64 k/\VA w0.heap.size wr vb (ze0 vs (args.take k))/\Below w0.heap.size w0 wr/\zpe vb w wr) (fun i _=>args.length - (intOf i).toNat)
 case atStart =>
  have hb:=(Below.refl w.heap.size w).alloc (uaa _) (.cells #[.bool neg,.string pred,.slice ao args.length cap] 90)
  exact⟨0,uaj _,rfl,hva.below hb,zae h0 hb (uaa _),zpe.of hb⟩
 case round =>
  obtain⟨k,hk,rfl,hvk,hbk,hkk⟩:=hrel
  by_cases hlt:k < args.length
  ·obtain⟨g,rfl,hg,hck⟩:=(hs.below hbk).cell k hlt
   have hsn:=zyq vs args k hlt
   have hlen:=zku (args.take k) vs
   have htk:(args.take k).length=k:=by simp;omega
   rw[htk] at hlen
   clear htk
   generalize args[k]=t at *
   generalize ze0 vs (args.take k)=vk at *
   have HS:Hid (ze0 vs (args.take (k+1))=zsd vk t):=hsn
   clear hsn
   cases hT:za8 t with
   |false =>
    have hR:ze0 vs (args.take (k+1))=vk:=by rw[HS.out,z5b hT]
    have HR:Hid (ze0 vs (args.take (k+1))=vk):=hR
    clear hR HS
    go_wp2_with (go_at_call 156;refine(zbw _ _).mono ?_;rintro e w' ⟨rfl,rfl⟩)
    go_roundw
    case rel=>exact⟨k+1,by omega,by go_num,by rw[HR.out];exact hvk,hbk,hkk⟩
    case measure=>simp[intOf];omega
   |true =>
    obtain⟨nv,hbx,hown⟩:=hvk
    obtain⟨ao2,cap2,rfl⟩:=zac hown
    obtain⟨hc,hf⟩:=hbx.rules
    cases hM:zpl t vk with
    |true =>
     have hR:ze0 vs (args.take (k+1))=vk:=by rw[HS.out,z4z hM]
     have HR:Hid (ze0 vs (args.take (k+1))=vk):=hR
     clear hR HS
     go_wp2_with (first|(go_at_call 156;refine(zbw _ _).mono ?_;rintro e w' ⟨rfl,rfl⟩)|(go_at_call 183;refine(zro _ vb _ vk t hbx hown (by omega)).mono ?_;rintro e w' ⟨rfl,rfl⟩))
     go_roundw
     case rel=>exact⟨k+1,by omega,by go_num,by rw[HR.out];exact⟨_,hbx,hown⟩,hbk,hkk⟩
     case measure=>simp[intOf];omega
    |false =>
     have hR:ze0 vs (args.take (k+1))=vk++[t]:=by rw[HS.out,z5c hT hM]
     have HR:Hid (ze0 vs (args.take (k+1))=vk++[t]):=hR
     clear hR HS
     go_wp2_with (first|(go_at_call 156;refine(zbw _ _).mono ?_;rintro e w' ⟨rfl,rfl⟩)|(go_at_call 183;refine(zro _ vb _ vk t hbx hown (by omega)).mono ?_;rintro e w' ⟨rfl,rfl⟩)|(at_builtin;refine zg3 _ _ _ _ rfl (.tmp 25) (.tmp 27) 30 rfl w0.heap.size 9 i0 _ 1 16 Tryz.underlying30 hi hz0 hzs hzb rfl (by decide) _ _ _ rfl hown (Below.refl _ _) _ _ rfl (by simp) rfl (by simp[Value.oneCell']) (by omega) (by omega) hbk.size ?_;intro v' w2 ho2 hB2 hc2 hf2 hk2 hz2';clear hc2 hf2;obtain⟨ao3,cap3,rfl⟩:=zac ho2;have hbx2:=Box.push hown (by decide) hbx hk2;obtain⟨hc3,hf3⟩:=hbx2.rules))
     have hkb:zpe vb w' (w2.setCell ⟨vb,0,none⟩ (.slice ao3 (vk.length+1) cap3)):=⟨by simp[World.setCell];exact hz2',fun b c T h1 h2 h3=>(Box.push hown (Ne.symm h2) h3 hk2).set_ne h1 _ _⟩
     have hva2:VA w0.heap.size (w2.setCell ⟨vb,0,none⟩ (.slice ao3 (vk.length+1) cap3)) vb (vk++[t]):=⟨_,hbx2.set 0 _,by
      have:=zb9 ho2 ((But.refl vb w2).setCell 0 (.slice ao3 (vk.length+1) cap3)) hbx2 (by decide)
      simpa using this⟩
     go_roundw
     case rel=>exact⟨k+1,by omega,by go_num,by rw[HR.out];exact hva2,(hbk.trans hB2).setCell hvb _,hkk.trans hkb⟩
     case measure=>simp[intOf];omega
  ·have hE:args.take k=args:=uam (by omega)
   rw[hE] at hvk
   clear hE
   go_wp2
   go_end0
   exact⟨rfl,hvk,hbk,hkk⟩
end Go.Proofs.YteampbddflhngaaGreat
namespace Go.Proofs.YteampbddflhngaaGreat
set_option maxRecDepth 100000
set_option maxHeartbeats 1000000
open Go.RowKit
variable {lo:Nat}
theorem LIn.cell{w:World}{ao:Option Addr}{n cap:Nat}{ls:List zbu}(h:LIn lo w (.slice ao n cap) ls)(k:Nat)(hk:k < ls.length):∃ g ao2 cap2,ao=some ⟨g,0,none⟩/\g < w.heap.size ∧
  w.cell? ⟨g,k * 3,none⟩=some (.bool ls[k].neg)/\w.cell? ⟨g,k * 3+1,none⟩=some (.string ls[k].pred)/\w.cell? ⟨g,k * 3+2,none⟩=some (.slice ao2 ls[k].args.length cap2)/\SIn lo w (.slice ao2 ls[k].args.length cap2) ls[k].args:=by
 obtain⟨xs,ho,hc⟩:=h
 obtain⟨g,cap',hv,_,hg,hcl⟩:=zal ho (by omega)
 simp at hv
 obtain⟨va,a1,a2,a3,a4⟩:=hc.at k ls[k] (by simp[hk])
 obtain⟨ao2,cap2,rfl⟩:=a4.shape
 exact⟨g,ao2,cap2,hv.1,hg,hcl _ _ a1,hcl _ _ a2,hcl _ _ a3,a4⟩
def zkg(vs:List ByteArray)(l:zbu):List ByteArray:=ze0 vs l.args
def zer(vs:List ByteArray)(l:zbu):List ByteArray:=if l.neg then vs else ze0 vs l.args
def zj7(c:zab):List ByteArray:=c.body.foldl zkg (ze0 [] c.head.args)
def zaf(c:zab):List ByteArray:=c.body.foldl zer []
def zcd(ls:List zbu):Nat:=ls.foldr (fun l n=>l.args.length+n) 0
theorem zhd(ls:List zbu):∀ k,k < ls.length->zcd (ls.take k)+(ls[k]?.map (·.args.length)).getD 0<=zcd ls:=by
 induction ls with
 |nil=>intro k h;simp at h
 |cons a ls ih =>
  intro k h
  cases k with
  |zero=>simp[zcd]
  |succ k=>have:=ih k (by simpa using h);simp[zcd] at this ⊢;omega
theorem z2u(ls:List zbu):∀ vs:List ByteArray,(ls.foldl zkg vs).length<=vs.length+zcd ls:=by
 induction ls with
 |nil=>intro vs;simp[zcd]
 |cons a ls ih=>intro vs;have:=ih (zkg vs a);have:=zku a.args vs;simp[zcd,zkg] at *;omega
theorem zjh(ls:List zbu):∀ vs:List ByteArray,(ls.foldl zer vs).length<=vs.length+zcd ls:=by
 induction ls with
 |nil=>intro vs;simp[zcd]
 |cons a ls ih =>
  intro vs
  have h1:=ih (zer vs a)
  have h2:=zku a.args vs
  have h3:(zer vs a).length<=vs.length+a.args.length:=by unfold zer;split <;> omega
  simp[zcd] at *;omega
theorem z7x(w:World)(c:zab)(va vb:Value)(hs:SIn lo w va c.head.args)(hb:LIn lo w vb c.body)(hl:c.head.args.length+zcd c.body<=1000)(hl2:c.body.length<=1000) :
  Calls Tryz.prog 145 #[.agg #[.bool c.head.neg,.string c.head.pred,va,vb]] w fun e w'=>∃ nv,e=.returned (.agg #[nv])/\w'.ownsRow w.heap.size 9 1 nv (zj7 c).length ((zj7 c).map Value.string)/\Below w.heap.size w w':=by
 obtain⟨ao,cap,rfl⟩:=hs.shape
 obtain⟨aob,capb,rfl⟩:=hb.shape
 have hb0:Below w.heap.size w (((w.alloc (.cells #[.bool c.head.neg,.string c.head.pred,.slice ao c.head.args.length cap,.slice aob c.body.length capb] 171)).alloc (.cells #[.slice none 0 0] 246)).alloc (.cells #[.slice none 0 0] 246)):=(by go_grown)
 have hva0:VA w.heap.size (((w.alloc (.cells #[.bool c.head.neg,.string c.head.pred,.slice ao c.head.args.length cap,.slice aob c.body.length capb] 171)).alloc (.cells #[.slice none 0 0] 246)).alloc (.cells #[.slice none 0 0] 246)) (w.heap.size+2) []:=⟨_,by have:=Box.new ((w.alloc (.cells #[.bool c.head.neg,.string c.head.pred,.slice ao c.head.args.length cap,.slice aob c.body.length capb] 171)).alloc (.cells #[.slice none 0 0] 246)) #[.slice none 0 0] 246;simpa using this,World.ownsRow_nil _ _ _ _⟩
 have hres0:Box (((w.alloc (.cells #[.bool c.head.neg,.string c.head.pred,.slice ao c.head.args.length cap,.slice aob c.body.length capb] 171)).alloc (.cells #[.slice none 0 0] 246)).alloc (.cells #[.slice none 0 0] 246)) (w.heap.size+1) #[.slice none 0 0] 246:=by have:=(Box.new (w.alloc (.cells #[.bool c.head.neg,.string c.head.pred,.slice ao c.head.args.length cap,.slice aob c.body.length capb] 171)) #[.slice none 0 0] 246).below ((Below.refl _ _).alloc (uaa _) (.cells #[.slice none 0 0] 246));simpa using this
 have hbx0:Box (((w.alloc (.cells #[.bool c.head.neg,.string c.head.pred,.slice ao c.head.args.length cap,.slice aob c.body.length capb] 171)).alloc (.cells #[.slice none 0 0] 246)).alloc (.cells #[.slice none 0 0] 246)) w.heap.size #[.bool c.head.neg,.string c.head.pred,.slice ao c.head.args.length cap,.slice aob c.body.length capb] 171:=((Box.new w _ _).below ((Below.refl _ _).alloc (uaa _) _)).below ((Below.refl _ _).alloc (uaa _) _)
 go_enter Tryz.func145,Tryz.ntmps145
 go_wp2_with (first|(go_at_call 182;refine(add_any w _ (w.heap.size+2) [] c.head.args _ _ _ (by exact hb0) hs (by exact hva0) (by omega) (by simp;omega)).mono ?_;rintro e w1 ⟨rfl,hva1,hb1,hk1⟩;have hres1:=hk1.box _ _ _ (by omega) (by decide) hres0;have hbx1:=hk1.box _ _ _ (by omega) (by decide) hbx0;obtain⟨hbc,hbf⟩:=hbx1.rules;have hsz1:=hbx1.lt))
 go_loopw [12] (fun i wr=>∃ k:Nat,k<=c.body.length/\i=.int .i64 k/\VA w.heap.size wr (w.heap.size+2) ((c.body.take k).foldl zkg (ze0 [] c.head.args))/\Below w.heap.size w wr/\Box wr (w.heap.size+1) #[.slice none 0 0] 246) (fun i _=>c.body.length - (intOf i).toNat)
 case atStart=>exact⟨0,uaj _,rfl,hva1,hb1,hres1⟩
 case round =>
  obtain⟨k,hk,rfl,hvk,hbk,hrk⟩:=hrel
  have hszk:=hbk.size
  by_cases hlt:k < c.body.length
  ·obtain⟨g,ao2,cap2,rfl,hg,hc0,hc1,hc2,hsk⟩:=hb.cell k hlt
   have hd0:=(hbk.cell (p:=⟨g,k * 3,none⟩) hg).trans hc0
   have hd1:=(hbk.cell (p:=⟨g,k * 3+1,none⟩) hg).trans hc1
   have hd2:=(hbk.cell (p:=⟨g,k * 3+2,none⟩) hg).trans hc2
   have hgr:g < wr.heap.size:=by omega
   have hlen:=z2u (c.body.take k) (ze0 [] c.head.args)
   have hst:=zhd c.body k hlt
   have hlen0:=zku c.head.args []
   have hsn:(c.body.take (k+1)).foldl zkg (ze0 [] c.head.args)=zkg ((c.body.take k).foldl zkg (ze0 [] c.head.args)) c.body[k]:=by rw[uae hlt,ubj];rfl
   rw[uac hlt] at hst
   simp only[ubp,uas] at hst
   clear hc0 hc1 hc2
   generalize c.body[k]=a at *
   generalize (c.body.take k).foldl zkg (ze0 [] c.head.args)=vk at *
   have HS:Hid ((c.body.take (k+1)).foldl zkg (ze0 [] c.head.args)=zkg vk a):=hsn
   clear hsn
   go_wp2_with (first|(go_at_call 182;refine(add_any w _ (w.heap.size+2) vk a.args _ _ _ (by exact(by go_grown)) hsk (by exact hvk.below (by go_grown)) (by omega) (by simp at *;omega)).mono ?_;rintro e w1 ⟨rfl,hva1,hb1,hk1⟩;have hres1:=hk1.box _ _ _ (by omega) (by decide) (hrk.below (by go_grown))))
   go_roundw
   case rel=>exact⟨k+1,by omega,by go_num,by rw[HS.out];exact hva1,hb1,hres1⟩
   case measure=>simp[intOf];omega
  ·have hE:c.body.take k=c.body:=uam (by omega)
   rw[hE] at hvk
   obtain⟨nv,hbx,hown⟩:=hvk
   obtain⟨ao3,cap3,rfl⟩:=zac hown
   obtain⟨hc,hf⟩:=hbx.rules
   obtain⟨hc2,hf2⟩:=hrk.rules
   have hz1:=hbx.lt
   clear hE
   go_wp2
   have ho2:=zb9 hown ((But.refl (w.heap.size+1) wr).setCell 0 (.slice ao3 (c.body.foldl zkg (ze0 [] c.head.args)).length cap3)) hrk (by decide)
   exact bodyPost_ret (v:=.agg #[.slice ao3 (c.body.foldl zkg (ze0 [] c.head.args)).length cap3]) (by simp[results,Tryz.results145,go_sem,hc2]) rfl ⟨_,rfl,ho2,(by go_grown)⟩
theorem zow(w:World)(c:zab)(va vb:Value)(hs:SIn lo w va c.head.args)(hb:LIn lo w vb c.body)(hl:c.head.args.length+zcd c.body<=1000)(hl2:c.body.length<=1000) :
  Calls Tryz.prog 148 #[.agg #[.bool c.head.neg,.string c.head.pred,va,vb]] w fun e w'=>∃ nv,e=.returned (.agg #[nv])/\w'.ownsRow w.heap.size 9 1 nv (zaf c).length ((zaf c).map Value.string)/\Below w.heap.size w w':=by
 obtain⟨ao,cap,rfl⟩:=hs.shape
 obtain⟨aob,capb,rfl⟩:=hb.shape
 have hb0:Below w.heap.size w (((w.alloc (.cells #[.bool c.head.neg,.string c.head.pred,.slice ao c.head.args.length cap,.slice aob c.body.length capb] 171)).alloc (.cells #[.slice none 0 0] 246)).alloc (.cells #[.slice none 0 0] 246)):=(by go_grown)
 have hva0:VA w.heap.size (((w.alloc (.cells #[.bool c.head.neg,.string c.head.pred,.slice ao c.head.args.length cap,.slice aob c.body.length capb] 171)).alloc (.cells #[.slice none 0 0] 246)).alloc (.cells #[.slice none 0 0] 246)) (w.heap.size+2) []:=⟨_,by have:=Box.new ((w.alloc (.cells #[.bool c.head.neg,.string c.head.pred,.slice ao c.head.args.length cap,.slice aob c.body.length capb] 171)).alloc (.cells #[.slice none 0 0] 246)) #[.slice none 0 0] 246;simpa using this,World.ownsRow_nil _ _ _ _⟩
 have hres0:Box (((w.alloc (.cells #[.bool c.head.neg,.string c.head.pred,.slice ao c.head.args.length cap,.slice aob c.body.length capb] 171)).alloc (.cells #[.slice none 0 0] 246)).alloc (.cells #[.slice none 0 0] 246)) (w.heap.size+1) #[.slice none 0 0] 246:=by have:=(Box.new (w.alloc (.cells #[.bool c.head.neg,.string c.head.pred,.slice ao c.head.args.length cap,.slice aob c.body.length capb] 171)) #[.slice none 0 0] 246).below ((Below.refl _ _).alloc (uaa _) (.cells #[.slice none 0 0] 246));simpa using this
 have hbx0:Box (((w.alloc (.cells #[.bool c.head.neg,.string c.head.pred,.slice ao c.head.args.length cap,.slice aob c.body.length capb] 171)).alloc (.cells #[.slice none 0 0] 246)).alloc (.cells #[.slice none 0 0] 246)) w.heap.size #[.bool c.head.neg,.string c.head.pred,.slice ao c.head.args.length cap,.slice aob c.body.length capb] 171:=((Box.new w _ _).below ((Below.refl _ _).alloc (uaa _) _)).below ((Below.refl _ _).alloc (uaa _) _)
 go_enter Tryz.func148,Tryz.ntmps148
 go_wp2
 go_loopw [9] (fun i wr=>∃ k:Nat,k<=c.body.length/\i=.int .i64 k/\VA w.heap.size wr (w.heap.size+2) ((c.body.take k).foldl zer [])/\Below w.heap.size w wr/\Box wr (w.heap.size+1) #[.slice none 0 0] 246) (fun i _=>c.body.length - (intOf i).toNat)
 case atStart=>exact⟨0,uaj _,rfl,hva0,hb0,hres0⟩
 case round =>
  obtain⟨k,hk,rfl,hvk,hbk,hrk⟩:=hrel
  have hszk:=hbk.size
  by_cases hlt:k < c.body.length
  ·obtain⟨g,ao2,cap2,rfl,hg,hc0,hc1,hc2,hsk⟩:=hb.cell k hlt
   have hd0:=(hbk.cell (p:=⟨g,k * 3,none⟩) hg).trans hc0
   have hd1:=(hbk.cell (p:=⟨g,k * 3+1,none⟩) hg).trans hc1
   have hd2:=(hbk.cell (p:=⟨g,k * 3+2,none⟩) hg).trans hc2
   have hgr:g < wr.heap.size:=by omega
   have hlen:=zjh (c.body.take k) []
   have hst:=zhd c.body k hlt
   have hlen0:True:=trivial
   have hsn:(c.body.take (k+1)).foldl zer []=zer ((c.body.take k).foldl zer []) c.body[k]:=by rw[uae hlt,ubj];rfl
   rw[uac hlt] at hst
   simp only[ubp,uas] at hst
   clear hc0 hc1 hc2
   generalize c.body[k]=a at *
   generalize (c.body.take k).foldl zer []=vk at *
   have HS:Hid ((c.body.take (k+1)).foldl zer []=zer vk a):=hsn
   clear hsn
   cases hN:a.neg with
   |true =>
    rw[hN] at hd0
    have HR:Hid ((c.body.take (k+1)).foldl zer []=vk):=by rw[Hid,HS.out,zer,hN,if_pos rfl]
    clear HS hN
    go_wp2
    go_roundw
    case rel=>exact⟨k+1,by omega,by go_num,by rw[HR.out];exact hvk.below (by go_grown),(by go_grown),hrk.below (by go_grown)⟩
    case measure=>simp[intOf];omega
   |false =>
    rw[hN] at hd0
    have HR:Hid ((c.body.take (k+1)).foldl zer []=ze0 vk a.args):=by rw[Hid,HS.out,zer,hN];rfl
    clear HS hN
    go_wp2_with (first|(go_at_call 182;refine(add_any w _ (w.heap.size+2) vk a.args _ _ _ (by exact(by go_grown)) hsk (by exact hvk.below (by go_grown)) (by omega) (by simp at *;omega)).mono ?_;rintro e w1 ⟨rfl,hva1,hb1,hk1⟩;have hres1:=hk1.box _ _ _ (by omega) (by decide) (hrk.below (by go_grown))))
    go_roundw
    case rel=>exact⟨k+1,by omega,by go_num,by rw[HR.out];exact hva1,hb1,hres1⟩
    case measure=>simp[intOf];omega
  ·have hE:c.body.take k=c.body:=uam (by omega)
   rw[hE] at hvk
   obtain⟨nv,hbx,hown⟩:=hvk
   obtain⟨ao3,cap3,rfl⟩:=zac hown
   obtain⟨hc,hf⟩:=hbx.rules
   obtain⟨hc2,hf2⟩:=hrk.rules
   have hz1:=hbx.lt
   clear hE
   go_wp2
   have ho2:=zb9 hown ((But.refl (w.heap.size+1) wr).setCell 0 (.slice ao3 (c.body.foldl zer []).length cap3)) hrk (by decide)
   exact bodyPost_ret (v:=.agg #[.slice ao3 (c.body.foldl zer []).length cap3]) (by simp[results,Tryz.results148,go_sem,hc2]) rfl ⟨_,rfl,ho2,(by go_grown)⟩
end Go.Proofs.YteampbddflhngaaGreat
