/- A packet of MQTT, as plain data. No program. Condition: none. -/
import Derived.Test.YtombgnfedafkjaaGreatDoorK04
namespace Go.Proofs.YtombgnfedafkjaaGreatDoor
structure Fi where
 topic:List UInt8
 qos:Int
 noLocal:Bool
 asPub:Bool
 handling:Int
deriving DecidableEq
structure Pk where
 kind:Int
 dup:Bool
 retain:Bool
 qos:Int
 id:Int
 topic:List UInt8
 payload:List UInt8
 clean:Bool
 keep:Int
 client:List UInt8
 hasUser:Bool
 user:List UInt8
 hasPass:Bool
 pass:List UInt8
 hasWill:Bool
 wTopic:List UInt8
 wPayload:List UInt8
 wQos:Int
 wRetain:Bool
 wProps:List Pr
 session:Bool
 code:Int
 codes:List Int
 filters:List Fi
 props:List Pr
deriving DecidableEq
def Pk.nums(p:Pk):List Int:=[p.kind,p.qos,p.id,p.keep,p.code,p.wQos]
def Pk.marks(p:Pk):List Bool:=[p.dup,p.retain,p.clean,p.hasUser,p.hasPass,p.hasWill,p.session,p.wRetain]
def Pk.texts(p:Pk):List (List UInt8):=[p.topic,p.payload,p.client,p.user,p.pass,p.wTopic,p.wPayload]
theorem qpgn(p q:Pk):p=q↔p.nums=q.nums/\p.marks=q.marks/\p.texts=q.texts/\p.codes=q.codes/\p.filters=q.filters/\p.props=q.props/\p.wProps=q.wProps:=by
 constructor
 ·rintro rfl;exact⟨rfl,rfl,rfl,rfl,rfl,rfl,rfl⟩
 ·obtain⟨⟩:=p;obtain⟨⟩:=q;rintro⟨h1,h2,h3,h4,h5,h6,h7⟩;simp only[Pk.nums,Pk.marks,Pk.texts,List.cons.injEq,and_true] at h1 h2 h3;simp only at h4 h5 h6 h7;obtain⟨rfl,rfl,rfl,rfl,rfl,rfl⟩:=h1;obtain⟨rfl,rfl,rfl,rfl,rfl,rfl,rfl,rfl⟩:=h2;obtain⟨rfl,rfl,rfl,rfl,rfl,rfl,rfl⟩:=h3;subst h4 h5 h6 h7
  rfl
def Pk.zero:Pk:=⟨0,false,false,0,0,[],[],false,0,[],false,[],false,[],false,[],[],0,false,[],false,0,[],[],[]⟩
def q21o(p:Pk):Prop:=p.codes.length<=70000/\p.filters.length<=70000/\p.props.length<=70000/\p.wProps.length<=70000
end Go.Proofs.YtombgnfedafkjaaGreatDoor
